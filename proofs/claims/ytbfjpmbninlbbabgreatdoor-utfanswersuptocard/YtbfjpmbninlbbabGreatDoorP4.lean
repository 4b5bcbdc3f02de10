import Derived.Test.YtbfjpmbninlbbabGreatDoorP3
namespace Go.Proofs.YtbfjpmbninlbbabGreatDoor
open Go.RowKit Go.Shelf
set_option linter.unusedVariables false
set_option linter.unusedSimpArgs false
attribute [local go_sem] Oper.semAt_some

set_option maxRecDepth 100000 in
set_option maxHeartbeats 4000000 in
theorem w_Split_nil (s p : ByteArray) (hs0 : s.size = 0) (w : World) :
    Calls Tryz.prog 24 #[.string s, .string p] w fun e w' => ∃ v, e = .returned v ∧ Hid (w'.ownsRow w.heap.size 9 1 v 0 (svals [])) ∧ Below w.heap.size w w' := by
  have hne1 : (s.toList.isEmpty) = true := by
    rw [Lib.toList_data]
    have e := size_len s
    cases h : s.data.toList with
    | nil => rfl
    | cons _ _ => rw [h] at e; simp at e; omega
  have HF : Hid (Below w.heap.size w ((w.alloc (.cells #[.string s] 9)).alloc (.cells #[.string p] 9))) := ((Below.refl _ _).alloc (Nat.le_refl _) _).alloc (by simp) _
  refine (callsIn_wide (n := 5)).1 ?_
  refine callsIn_of_wp_marks Tryz.func24 rfl trivial ?_ rfl
  simp only [Tryz.ntmps24, List.size_toArray, List.length_cons, List.length_nil, Nat.reduceAdd, Nat.reduceSub, Array.replicate_succ, Array.replicate_zero, List.push_toArray, List.append_toArray, List.nil_append, List.cons_append]
  gi_wp2_with fail
  exact ⟨.slice none 0 0, by simp [results, Tryz.results24, go_sem], _, rfl, World.ownsRow_nil _ _ _ _, HF.out⟩

set_option maxRecDepth 100000 in
set_option maxHeartbeats 4000000 in
theorem w_Split_pieces (s p : ByteArray) (ss : s.size ≤ 1048576) (hp : p.size = 0) (hs0 : 0 < s.size) (w : World) :
    Calls Tryz.prog 24 #[.string s, .string p] w fun e w' => ∃ v, e = .returned v ∧ Hid (w'.ownsRow w.heap.size 9 1 v (runes s.data.toList).length (svals (pcl s (runes s.data.toList).length))) ∧ Below w.heap.size w w' := by
  have hne1 : (s.toList.isEmpty) = false := by
    rw [Lib.toList_data]
    have e := size_len s
    cases h : s.data.toList with
    | nil => rw [h] at e; exact absurd e (by simp; omega)
    | cons _ _ => rfl
  have hne2 : (p.toList.isEmpty) = true := by
    rw [Lib.toList_data]
    have e := size_len p
    cases h : p.data.toList with
    | nil => rfl
    | cons _ _ => rw [h] at e; simp at e; omega
  have HF : Hid (Below w.heap.size w ((w.alloc (.cells #[.string s] 9)).alloc (.cells #[.string p] 9))) := ((Below.refl _ _).alloc (Nat.le_refl _) _).alloc (by simp) _
  refine (callsIn_wide (n := 5)).1 ?_
  refine callsIn_of_wp_marks Tryz.func24 rfl trivial ?_ rfl
  simp only [Tryz.ntmps24, List.size_toArray, List.length_cons, List.length_nil, Nat.reduceAdd, Nat.reduceSub, Array.replicate_succ, Array.replicate_zero, List.push_toArray, List.append_toArray, List.nil_append, List.cons_append]
  gi_wp2_with fail
  refine ⟨trivial, (callsIn_wide.2 (w_pieces s _ hs0 ss)).mono ?_⟩
  rintro e w6 ⟨v, rfl, ho, hb⟩
  obtain ⟨so, sc, rfl⟩ := own_shape ho.out
  have HB := Hid.mk (below_more HF.out hb)
  have HO : Hid (w6.ownsRow w.heap.size 9 1 (.slice so (runes s.data.toList).length sc) (runes s.data.toList).length (svals (pcl s (runes s.data.toList).length))) := by
    have h3 := ho.out
    exact ⟨h3.1, h3.2.imp id (fun ⟨g, cap, cur, e, hb, rest⟩ => ⟨g, cap, cur, e, by simp at hb; omega, rest⟩)⟩
  clear ho hb
  gi_wp2_with fail
  exact ⟨.slice so (runes s.data.toList).length sc, by simp [results, Tryz.results24, go_sem], _, rfl, HO, HB.out⟩
end Go.Proofs.YtbfjpmbninlbbabGreatDoor
