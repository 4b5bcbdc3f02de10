import Derived.Test.YtaflpeajapdkdaaM36
import Derived.Test.YtaflpeajapdkdaaM37
import Derived.Deep.RegionHeld
namespace Go.Proofs.Ytaflpeajapdkdaa
open Go.RowKit Go.Maps Go.Sort Go.Shelf
set_option linter.unusedVariables false
set_option linter.unusedSimpArgs false
attribute [local go_sem] Oper.semAt_some

/-- how many items a value is gone through for -/
def heldN (T : VT) : Nat := if T.kind = 5 ∨ T.kind = 6 then T.items.length else 0

set_option maxRecDepth 100000 in
set_option maxHeartbeats 3200000 in
theorem w_held (kd : Int) (n t : ByteArray) (io : Option Addr) (N ic : Nat) (ko : Option Addr) (K kc : Nat) (w : World) : Calls Try.prog 11 #[.agg #[.int .i64 kd, .string n, .string t, .slice io N ic, .slice ko K kc]] w fun e w' => e = .returned (.int .i64 ((if kd = 5 ∨ kd = 6 then N else 0 : Nat) : Int)) ∧ Below w.heap.size w w' := by
  have hb := below1 w (.cells #[.int .i64 kd, .string n, .string t, .slice io N ic, .slice ko K kc] 25)
  by_cases h5 : kd = 5
  · subst h5
    go_enter Try.func11, Try.ntmps11
    go_wp2_with fail
    go_ret
    exact ⟨by simp, hb⟩
  · by_cases h6 : kd = 6
    · subst h6
      go_enter Try.func11, Try.ntmps11
      go_wp2_with fail
      go_ret
      exact ⟨by simp, hb⟩
    · have n5 : (kd != 5) = true := by simp [h5]
      have n6 : (kd != 6) = true := by simp [h6]
      go_enter Try.func11, Try.ntmps11
      go_wp2_with fail
      go_ret
      exact ⟨by simp [h5, h6], hb⟩

end Go.Proofs.Ytaflpeajapdkdaa
namespace Go.Proofs.Ytaflpeajapdkdaa
open Go.RowKit Go.Maps Go.Sort Go.Shelf
set_option linter.unusedVariables false
set_option linter.unusedSimpArgs false
attribute [local go_sem] Oper.semAt_some

set_option maxRecDepth 100000 in
set_option maxHeartbeats 12800000 in
/-- what stands at a place: this very item -/
theorem w_at (h : Nat) (X : VT) (kd : Int) (n t : ByteArray) (b off N ic : Nat) (ko : Option Addr) (Kn kc : Nat) (i : Nat) (key : ByteArray) (x0 : Int) (x1 x2 : ByteArray) (xo : Option Addr) (xn xc : Nat) (yo : Option Addr) (yn yc : Nat) (z0 : Int) (z1 z2 : ByteArray) (zo : Option Addr) (zn zc : Nat) (qo : Option Addr) (qn qc : Nat) (w : World)
    (hi : i < N) (hic : N ≤ ic) (hN : N ≤ 1048577) (hkd : kd = 5 ∨ kd = 6) (hX : InH w h X (.agg #[.int .i64 x0, .string x1, .string x2, .slice xo xn xc, .slice yo yn yc])) (hZ : InH w h X (.agg #[.int .i64 z0, .string z1, .string z2, .slice zo zn zc, .slice qo qn qc]))
    (r0 : w.cell? ⟨b, off + i * 5, none⟩ = some (.int .i64 z0)) (r1 : w.cell? ⟨b, off + i * 5 + 1, none⟩ = some (.string z1)) (r2 : w.cell? ⟨b, off + i * 5 + 2, none⟩ = some (.string z2)) (r3 : w.cell? ⟨b, off + i * 5 + 3, none⟩ = some (.slice zo zn zc)) (r4 : w.cell? ⟨b, off + i * 5 + 4, none⟩ = some (.slice qo qn qc))
    (hkey : kd = 6 → ∃ kb koff, ko = some ⟨kb, koff, none⟩ ∧ i < Kn ∧ Kn ≤ kc ∧ w.cell? ⟨kb, koff + i, none⟩ = some (.string key)) (hkey5 : kd = 5 → key = ⟨#[]⟩) :
    Calls Try.prog 8 #[.agg #[.int .i64 kd, .string n, .string t, .slice (some ⟨b, off, none⟩) N ic, .slice ko Kn kc], .int .i64 (i : Int), .string key, .agg #[.int .i64 x0, .string x1, .string x2, .slice xo xn xc, .slice yo yn yc]] w fun e w' => e = .returned (.bool true) ∧ Below w.heap.size w w' := by
  obtain ⟨V, hV⟩ : ∃ V, (w.alloc (.cells #[.int .i64 kd, .string n, .string t, .slice (some ⟨b, off, none⟩) N ic, .slice ko Kn kc] 25)).alloc (.cells #[.int .i64 x0, .string x1, .string x2, .slice xo xn xc, .slice yo yn yc] 25) = V := ⟨_, rfl⟩
  have hb : Below w.heap.size w V := by rw [← hV]; exact below2 w _ _
  have hVs : V.heap.size = w.heap.size + 2 := by rw [← hV]; simp
  have hV0 : V.heap[w.heap.size]? = some (.cells #[.int .i64 kd, .string n, .string t, .slice (some ⟨b, off, none⟩) N ic, .slice ko Kn kc] 25 (0, 0)) := by
    rw [← hV]; exact (Below.heap_alloc _ _ _ (by simp)).trans (heap_alloc_new w _)
  have hV1 : V.heap[w.heap.size + 1]? = some (.cells #[.int .i64 x0, .string x1, .string x2, .slice xo xn xc, .slice yo yn yc] 25 (0, 0)) := by
    rw [← hV]
    have := heap_alloc_new (w.alloc (.cells #[.int .i64 kd, .string n, .string t, .slice (some ⟨b, off, none⟩) N ic, .slice ko Kn kc] 25)) (.cells #[.int .i64 x0, .string x1, .string x2, .slice xo xn xc, .slice yo yn yc] 25)
    rwa [World.size_alloc] at this
  have lt : ∀ {b o : Nat} {v : Value}, w.cell? ⟨b, o, none⟩ = some v → b < w.heap.size := fun {b o v} h => World.block_lt_of_cell? w ⟨b, o, none⟩ h
  have HSS : Hid (∀ u, Below V.heap.size V u → u.cell? ⟨w.heap.size, 0, none⟩ = some (.int .i64 kd) ∧ u.cell? ⟨w.heap.size, 1, none⟩ = some (.string n) ∧ u.cell? ⟨w.heap.size, 2, none⟩ = some (.string t) ∧ u.cell? ⟨w.heap.size, 3, none⟩ = some (.slice (some ⟨b, off, none⟩) N ic) ∧ u.cell? ⟨w.heap.size, 4, none⟩ = some (.slice ko Kn kc) ∧ u.cell? ⟨w.heap.size + 1, 0, none⟩ = some (.int .i64 x0) ∧ u.cell? ⟨w.heap.size + 1, 1, none⟩ = some (.string x1) ∧ u.cell? ⟨w.heap.size + 1, 2, none⟩ = some (.string x2) ∧ u.cell? ⟨w.heap.size + 1, 3, none⟩ = some (.slice xo xn xc) ∧ u.cell? ⟨w.heap.size + 1, 4, none⟩ = some (.slice yo yn yc) ∧ u.cell? ⟨b, off + i * 5, none⟩ = some (.int .i64 z0) ∧ u.cell? ⟨b, off + i * 5 + 1, none⟩ = some (.string z1) ∧ u.cell? ⟨b, off + i * 5 + 2, none⟩ = some (.string z2) ∧ u.cell? ⟨b, off + i * 5 + 3, none⟩ = some (.slice zo zn zc) ∧ u.cell? ⟨b, off + i * 5 + 4, none⟩ = some (.slice qo qn qc)) := fun u hu => by
    have bx : ∀ {g : Nat} {cs : Array Value} {ty : TypeId}, V.heap[g]? = some (.cells cs ty (0, 0)) → u.heap[g]? = some (.cells cs ty (0, 0)) := fun hg => (hu.block _ (Array.getElem?_eq_some_iff.1 hg).1).trans hg
    have cl : ∀ {g o : Nat} {v : Value}, w.cell? ⟨g, o, none⟩ = some v → u.cell? ⟨g, o, none⟩ = some v := fun hg => ((hb.trans (hu.mono (by omega))).cell (p := ⟨_, _, _⟩) (lt hg)).trans hg
    exact ⟨cell_of_row _ _ 0 _ _ _ (bx hV0), cell_of_row _ _ 1 _ _ _ (bx hV0), cell_of_row _ _ 2 _ _ _ (bx hV0), cell_of_row _ _ 3 _ _ _ (bx hV0), cell_of_row _ _ 4 _ _ _ (bx hV0), cell_of_row _ _ 0 _ _ _ (bx hV1), cell_of_row _ _ 1 _ _ _ (bx hV1), cell_of_row _ _ 2 _ _ _ (bx hV1), cell_of_row _ _ 3 _ _ _ (bx hV1), cell_of_row _ _ 4 _ _ _ (bx hV1), cl r0, cl r1, cl r2, cl r3, cl r4⟩
  have HL := Hid.mk (fun u (hu : Below V.heap.size V u) => w_Like h X X _ _ u (hX.keep (hb.trans (hu.mono (by omega)))) (hZ.keep (hb.trans (hu.mono (by omega)))))
  have HKy : Hid (∀ u, Below V.heap.size V u → kd = 6 → ∃ kb koff, ko = some ⟨kb, koff, none⟩ ∧ i < Kn ∧ Kn ≤ kc ∧ u.cell? ⟨kb, koff + i, none⟩ = some (.string key)) := fun u hu h6 => by
    obtain ⟨kb, koff, e1, e2, e3, e4⟩ := hkey h6
    exact ⟨kb, koff, e1, e2, e3, ((hb.trans (hu.mono (by omega))).cell (p := ⟨_, _, _⟩) (lt e4)).trans e4⟩
  have HB := Hid.mk hb
  have hi1 : (i : Int) < (N : Int) := by omega
  have hi2 : ¬ (N : Int) ≤ (i : Int) := by omega
  have hi3 : (0 : Int) ≤ (i : Int) := by omega
  have hbd : Below V.heap.size V V.drew := ⟨rfl, rfl, rfl, Nat.le_refl _, fun _ _ => rfl⟩
  have HBD := Hid.mk hbd
  clear hX hZ r0 r1 r2 r3 r4 lt hkey hV0 hV1 hb hbd
  go_enter Try.func8, Try.ntmps8
  go_upto_region 1 with fail
  refine wp_region_held_drew (S := fun u => u.cell? ⟨w.heap.size, 0, none⟩ = some (.int .i64 kd) ∧ u.cell? ⟨w.heap.size, 1, none⟩ = some (.string n) ∧ u.cell? ⟨w.heap.size, 2, none⟩ = some (.string t) ∧ u.cell? ⟨w.heap.size, 3, none⟩ = some (.slice (some ⟨b, off, none⟩) N ic) ∧ u.cell? ⟨w.heap.size, 4, none⟩ = some (.slice ko Kn kc) ∧ u.cell? ⟨w.heap.size + 1, 0, none⟩ = some (.int .i64 x0) ∧ u.cell? ⟨w.heap.size + 1, 1, none⟩ = some (.string x1) ∧ u.cell? ⟨w.heap.size + 1, 2, none⟩ = some (.string x2) ∧ u.cell? ⟨w.heap.size + 1, 3, none⟩ = some (.slice xo xn xc) ∧ u.cell? ⟨w.heap.size + 1, 4, none⟩ = some (.slice yo yn yc) ∧ u.cell? ⟨b, off + i * 5, none⟩ = some (.int .i64 z0) ∧ u.cell? ⟨b, off + i * 5 + 1, none⟩ = some (.string z1) ∧ u.cell? ⟨b, off + i * 5 + 2, none⟩ = some (.string z2) ∧ u.cell? ⟨b, off + i * 5 + 3, none⟩ = some (.slice zo zn zc) ∧ u.cell? ⟨b, off + i * 5 + 4, none⟩ = some (.slice qo qn qc)) (by kernel_rfl) (HSS.out _ HBD.out) (fun hHeld => ?_)
  refine wpAnyH_take (i := 0) (oi := _) (v := .int .i64 (i : Int)) rfl (by kernel_rfl) (by kernel_rfl) (by kernel_rfl) (fun _ _ _ h => h) (Or.inl ⟨by rfl, ?_⟩) (by assumption) ?_
  · intro u hSu
    obtain ⟨s0, s1, s2, s3, s4, s5, s6, s7, s8, s9, sa, sb, sc, sd, se⟩ := hSu
    go_simp
  try simp only [Act.put, List.getElem_toArray, List.getElem_cons_succ, List.getElem_cons_zero, List.setIfInBounds_toArray, List.set_cons_zero, List.set_cons_succ]
  refine wpAnyH_take (i := 1) (oi := _) (v := .agg #[.int .i64 kd, .string n, .string t, .slice (some ⟨b, off, none⟩) N ic, .slice ko Kn kc]) rfl (by kernel_rfl) (by kernel_rfl) (by kernel_rfl) (fun _ _ _ h => h) (Or.inl ⟨by rfl, ?_⟩) (by assumption) ?_
  · intro u hSu
    obtain ⟨s0, s1, s2, s3, s4, s5, s6, s7, s8, s9, sa, sb, sc, sd, se⟩ := hSu
    go_simp
  try simp only [Act.put, List.getElem_toArray, List.getElem_cons_succ, List.getElem_cons_zero, List.setIfInBounds_toArray, List.set_cons_zero, List.set_cons_succ]
  refine wpAnyH_ready (rs := [2]) (by kernel_rfl) (by simp) ?_
  refine AllReadyH.cons (o := _) rfl (fun K hK => ?_) AllReadyH.nil
  go_simp
  go_at_call 11
  refine (w_held _ _ _ _ _ _ _ _ _ _).mono ?_
  rintro e u ⟨rfl, hbu⟩
  rw [if_pos hkd]
  have HBU : Hid (Below V.heap.size V u) := HBD.out.trans hbu
  clear hbu
  go_wp2_with fail
  refine hK.out _ _ (HSS.out _ HBU.out) (fun hHeld => ?_)
  clear hK K
  try simp only [Act.put, List.getElem_toArray, List.getElem_cons_succ, List.getElem_cons_zero, List.setIfInBounds_toArray, List.set_cons_zero, List.set_cons_succ]
  refine wpAnyH_take (i := 3) (oi := _) (v := .bool false) rfl (by kernel_rfl) (by kernel_rfl) (by kernel_rfl) (fun _ _ _ h => h) (Or.inl ⟨by rfl, ?_⟩) (by assumption) ?_
  · intro u hSu
    obtain ⟨s0, s1, s2, s3, s4, s5, s6, s7, s8, s9, sa, sb, sc, sd, se⟩ := hSu
    go_simp
  try simp only [Act.put, List.getElem_toArray, List.getElem_cons_succ, List.getElem_cons_zero, List.setIfInBounds_toArray, List.set_cons_zero, List.set_cons_succ]
  refine wpAnyH_take (i := 4) (oi := _) (v := .bool false) rfl (by kernel_rfl) (by kernel_rfl) (by kernel_rfl) (fun _ _ _ h => h) (Or.inl ⟨by rfl, ?_⟩) (by assumption) ?_
  · intro u hSu
    obtain ⟨s0, s1, s2, s3, s4, s5, s6, s7, s8, s9, sa, sb, sc, sd, se⟩ := hSu
    go_simp
  try simp only [Act.put, List.getElem_toArray, List.getElem_cons_succ, List.getElem_cons_zero, List.setIfInBounds_toArray, List.set_cons_zero, List.set_cons_succ]
  refine wpAnyH_take (i := 5) (oi := _) (v := .agg #[.int .i64 x0, .string x1, .string x2, .slice xo xn xc, .slice yo yn yc]) rfl (by kernel_rfl) (by kernel_rfl) (by kernel_rfl) (fun _ _ _ h => h) (Or.inl ⟨by rfl, ?_⟩) (by assumption) ?_
  · intro u hSu
    obtain ⟨s0, s1, s2, s3, s4, s5, s6, s7, s8, s9, sa, sb, sc, sd, se⟩ := hSu
    go_simp
  try simp only [Act.put, List.getElem_toArray, List.getElem_cons_succ, List.getElem_cons_zero, List.setIfInBounds_toArray, List.set_cons_zero, List.set_cons_succ]
  refine wpAnyH_take (i := 6) (oi := _) (v := .pointer (some ⟨w.heap.size, 3, none⟩)) rfl (by kernel_rfl) (by kernel_rfl) (by kernel_rfl) (fun _ _ _ h => h) (Or.inl ⟨by rfl, ?_⟩) (by assumption) ?_
  · intro u hSu
    obtain ⟨s0, s1, s2, s3, s4, s5, s6, s7, s8, s9, sa, sb, sc, sd, se⟩ := hSu
    go_simp
  try simp only [Act.put, List.getElem_toArray, List.getElem_cons_succ, List.getElem_cons_zero, List.setIfInBounds_toArray, List.set_cons_zero, List.set_cons_succ]
  refine wpAnyH_take (i := 7) (oi := _) (v := .slice (some ⟨b, off, none⟩) N ic) rfl (by kernel_rfl) (by kernel_rfl) (by kernel_rfl) (fun _ _ _ h => h) (Or.inl ⟨by rfl, ?_⟩) (by assumption) ?_
  · intro u hSu
    obtain ⟨s0, s1, s2, s3, s4, s5, s6, s7, s8, s9, sa, sb, sc, sd, se⟩ := hSu
    go_simp
  try simp only [Act.put, List.getElem_toArray, List.getElem_cons_succ, List.getElem_cons_zero, List.setIfInBounds_toArray, List.set_cons_zero, List.set_cons_succ]
  refine wpAnyH_take (i := 8) (oi := _) (v := .int .i64 (i : Int)) rfl (by kernel_rfl) (by kernel_rfl) (by kernel_rfl) (fun _ _ _ h => h) (Or.inl ⟨by rfl, ?_⟩) (by assumption) ?_
  · intro u hSu
    obtain ⟨s0, s1, s2, s3, s4, s5, s6, s7, s8, s9, sa, sb, sc, sd, se⟩ := hSu
    go_simp
  try simp only [Act.put, List.getElem_toArray, List.getElem_cons_succ, List.getElem_cons_zero, List.setIfInBounds_toArray, List.set_cons_zero, List.set_cons_succ]
  refine wpAnyH_take (i := 9) (oi := _) (v := .pointer (some ⟨b, off + i * 5, none⟩)) rfl (by kernel_rfl) (by kernel_rfl) (by kernel_rfl) (fun _ _ _ h => h) (Or.inl ⟨by rfl, ?_⟩) (by assumption) ?_
  · intro u hSu
    obtain ⟨s0, s1, s2, s3, s4, s5, s6, s7, s8, s9, sa, sb, sc, sd, se⟩ := hSu
    go_simp
  try simp only [Act.put, List.getElem_toArray, List.getElem_cons_succ, List.getElem_cons_zero, List.setIfInBounds_toArray, List.set_cons_zero, List.set_cons_succ]
  refine wpAnyH_take (i := 10) (oi := _) (v := .agg #[.int .i64 z0, .string z1, .string z2, .slice zo zn zc, .slice qo qn qc]) rfl (by kernel_rfl) (by kernel_rfl) (by kernel_rfl) (fun _ _ _ h => h) (Or.inl ⟨by rfl, ?_⟩) (by assumption) ?_
  · intro u hSu
    obtain ⟨s0, s1, s2, s3, s4, s5, s6, s7, s8, s9, sa, sb, sc, sd, se⟩ := hSu
    go_simp
  try simp only [Act.put, List.getElem_toArray, List.getElem_cons_succ, List.getElem_cons_zero, List.setIfInBounds_toArray, List.set_cons_zero, List.set_cons_succ]
  refine wpAnyH_ready (rs := [11]) (by kernel_rfl) (by simp) ?_
  refine AllReadyH.cons (o := _) rfl (fun K hK => ?_) AllReadyH.nil
  go_simp
  go_at_call 23
  refine (HL.out _ HBU.out).mono ?_
  rintro e u2 ⟨rfl, hb2⟩
  rw [likeD_iff.2 rfl]
  have HB2 : Hid (Below V.heap.size V u2) := HBU.out.trans (hb2.mono (by have := HBU.out.size; omega))
  clear hb2
  go_wp2_with fail
  refine hK.out _ _ (HSS.out _ HB2.out) (fun hHeld => ?_)
  clear hK K
  try simp only [Act.put, List.getElem_toArray, List.getElem_cons_succ, List.getElem_cons_zero, List.setIfInBounds_toArray, List.set_cons_zero, List.set_cons_succ]
  refine wpAnyH_take (i := 12) (oi := _) (v := .bool false) rfl (by kernel_rfl) (by kernel_rfl) (by kernel_rfl) (fun _ _ _ h => h) (Or.inl ⟨by rfl, ?_⟩) (by assumption) ?_
  · intro u hSu
    obtain ⟨s0, s1, s2, s3, s4, s5, s6, s7, s8, s9, sa, sb, sc, sd, se⟩ := hSu
    go_simp
  try simp only [Act.put, List.getElem_toArray, List.getElem_cons_succ, List.getElem_cons_zero, List.setIfInBounds_toArray, List.set_cons_zero, List.set_cons_succ]
  refine wpAnyH_take (i := 13) (oi := _) (v := .bool false) rfl (by kernel_rfl) (by kernel_rfl) (by kernel_rfl) (fun _ _ _ h => h) (Or.inl ⟨by rfl, ?_⟩) (by assumption) ?_
  · intro u hSu
    obtain ⟨s0, s1, s2, s3, s4, s5, s6, s7, s8, s9, sa, sb, sc, sd, se⟩ := hSu
    go_simp
  try simp only [Act.put, List.getElem_toArray, List.getElem_cons_succ, List.getElem_cons_zero, List.setIfInBounds_toArray, List.set_cons_zero, List.set_cons_succ]
  refine wpAnyH_done (by kernel_rfl) ?_ _
  try simp only [Act.put, List.getElem_toArray, List.getElem_cons_succ, List.getElem_cons_zero, List.setIfInBounds_toArray, List.set_cons_zero, List.set_cons_succ]
  have hfin : Below w.heap.size w u2 := HB.out.trans (HB2.out.mono (by omega))
  obtain ⟨s0, s1, s2, s3, s4, _⟩ := HSS.out _ HB2.out
  rcases hkd with h5 | h6
  · have hk5 := hkey5 h5
    subst h5
    subst hk5
    go_wp2_with fail
    go_ret
    exact ⟨rfl, hfin⟩
  · obtain ⟨kb, koff, e1, e2, e3, e4⟩ := HKy.out _ HB2.out h6
    subst h6
    subst e1
    have hk1 : (i : Int) < (Kn : Int) := by omega
    go_wp2_with fail
    go_ret
    exact ⟨by simp, hfin⟩
end Go.Proofs.Ytaflpeajapdkdaa
