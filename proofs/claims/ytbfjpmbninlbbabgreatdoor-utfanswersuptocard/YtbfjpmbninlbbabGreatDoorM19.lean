import Derived.Test.YtbfjpmbninlbbabGreatDoorM15
namespace Go.Proofs.YtbfjpmbninlbbabGreatDoor
open Go.RowKit Go.Shelf
set_option linter.unusedVariables false
set_option linter.unusedSimpArgs false
attribute [local go_sem] Oper.semAt_some

def natI (xs : List Nat) : List Int := xs.map fun (q : Nat) => (q : Int)
theorem natI_snoc (xs : List Nat) (x : Nat) : ivals .i64 (natI xs) ++ [.int .i64 (x : Int)] = ivals .i64 (natI (xs ++ [x])) := by simp [ivals, natI]

/-- what has been collected -/
def ColI (w : World) (B : Nat) (pre : List Nat) (W : World) : Prop :=
  (∃ v, Boxed W B 39 v ∧ W.ownsRow w.heap.size 3 1 v pre.length (ivals .i64 (natI pre)) ∧ (v = .slice none 0 0 ↔ pre = [])) ∧ Below w.heap.size w W

theorem kpB_app {W w1 : World} {n₀ B : Nat} {t e : TypeId} {size : Nat} {v v' : Value} {k m : Nat} {xs ys : List Value} {tmp : Obj}
    (hv : Boxed W B t v) (hte : t ≠ e) (hrow : W.ownsRow n₀ e size v k xs) (hown' : w1.ownsRow n₀ e size v' m ys) (hgrow : (W.alloc tmp).grownBy w1 v.ownBlock) (hat : v'.ownBlock = v.ownBlock ∨ v'.ownBlock = some (W.alloc tmp).heap.size) (hv1 : Boxed w1 B t v) :
    KpB (fun b => b = B) B W (w1.setCell ⟨B, 0, none⟩ v') := by
  have hsz := hgrow.size
  simp at hsz
  have hr0 : rowAt W B = v.ownBlock := by unfold rowAt; rw [hv.cell]; rfl
  have hr1 : rowAt (w1.setCell ⟨B, 0, none⟩ v') B = v'.ownBlock := by unfold rowAt; rw [(hv1.set v').cell]; rfl
  refine ⟨by simp; omega, fun b o hb hr ho hc => ?_, ?_⟩
  · rw [Below.heap_setCell _ _ _ _ hb]
    have hlt := (Array.getElem?_eq_some_iff.1 ho).1
    rw [hgrow.block b (by simp; omega) (by rw [← hr0]; exact Ne.symm hr), Below.heap_alloc _ _ _ hlt]
    exact ho
  · rw [hr1, hr0]
    rcases hat with h | h
    · exact .inl h
    · exact .inr ⟨_, h, by simp⟩

set_option maxRecDepth 100000 in
set_option maxHeartbeats 4000000 in
theorem w_AppendSeq (Bp Bs : Nat) (s p : ByteArray) (ss : s.size ≤ 4294967296) (w : World) (cp : w.cell? ⟨Bp, 0, none⟩ = some (.string p)) (cs : w.cell? ⟨Bs, 0, none⟩ = some (.string s)) (lp : Bp < w.heap.size) (ls : Bs < w.heap.size) :
    Calls Tryz.prog 63 #[.slice none 0 0, .func (.func 64) #[] #[.pointer (some ⟨Bp, 0, none⟩), .pointer (some ⟨Bs, 0, none⟩)]] w fun e w' => ∃ so sc, e = .returned (.slice so (plcs s p).length sc) ∧ Hid (w'.ownsRow w.heap.size 3 1 (.slice so (plcs s p).length sc) (plcs s p).length (ivals .i64 (natI (plcs s p)))) ∧ Below w.heap.size w w' := by
  obtain ⟨i0, hi0, hz0, hz1, hz2⟩ := info_parts Tryz.infoI
  refine (callsIn_wide (n := 5)).1 ?_
  refine callsIn_of_wp_marks Tryz.func63 rfl trivial ?_ rfl
  simp only [Tryz.ntmps63, List.size_toArray, List.length_cons, List.length_nil, Nat.reduceAdd, Nat.reduceSub, Array.replicate_succ, Array.replicate_zero, List.push_toArray, List.append_toArray, List.nil_append, List.cons_append]
  gi_wp2_with fail
  have hbx := Boxed.new w 39 (.slice none 0 0)
  have hB0 : Below w.heap.size w (w.alloc (.cells #[.slice none 0 0] 39)) := (Below.refl _ w).alloc (Nat.le_refl _) _
  refine wpIn_rangeFunc_ownF rfl (by omega) (gf := 64) (lb := #[.pointer (some ⟨Bp, 0, none⟩), .pointer (some ⟨Bs, 0, none⟩)]) rfl trivial (enters_of Tryz.func64 (by kernel_rfl) rfl)
    (places_stops (fun b => b = w.heap.size) (5 - 1) (by omega) w.heap.size Bp Bs s p ss (w.alloc (.cells #[.slice none 0 0] 39)) ((hB0.cell (p := ⟨Bp, 0, none⟩) lp).trans cp) ((hB0.cell (p := ⟨Bs, 0, none⟩) ls).trans cs) (by unfold rowAt; rw [hbx.cell]; rfl) (by simp) (by simp; omega) (by simp; omega) (fun h => by omega) (fun h => by omega) (fun b h => by simp; omega))
    (fun h k => h.trans k) (KpB.put (by simp)) (Below.refl _ _) (fun _ => rfl)
    (ColI w w.heap.size) (fun _ _ _ => False)
    (OwnFrom.and (Own.from (holdsRow_own _ _ _ _ _ (fun pre => pre.length) (fun pre => ivals .i64 (natI pre)) (fun pre v => v = .slice none 0 0 ↔ pre = [])) _) (ownFrom_below (Nat.le_refl _) (by simp)))
    (fun _ _ _ _ _ hs _ _ => hs)
    ⟨⟨_, hbx, World.ownsRow_nil _ _ _ _, by simp⟩, hB0⟩ ?a1 ?assign ?body ?done ?stop
  case assign =>
    intro l x W K hK
    gi_wp2_with fail
    exact hK
  case body =>
    rintro q pre x W ⟨⟨v, hv, hrow, hnil⟩, hB⟩ hlt
    have hc := hv.cell
    have hsz := hB.size
    clear hnil
    gi_wp2_with (gi_at_builtin; refine wpListIn_append_own_at _ rfl _ _ 39 rfl w.heap.size 3 i0 (.int .i64 0) 1 8 Tryz.underlying39 hi0 hz0 hz1 hz2 rfl (by decide) _ _ _ rfl (hrow.alloc _) ⟨W.heap.size, 0, none⟩ 1 1 [.int .i64 (x : Int)] rfl rfl (cell_one_new _ _ _) (by simp [Value.oneCell']) (by unfold maxLen; omega) (by omega) (by simp; omega) ?_; intro v' w1 hown' hgrow _ hat; obtain ⟨g', cap', rfl⟩ := ownsRow_succ hown'; obtain ⟨hv1, hv2, hr2, hk2, hb2⟩ := hv.appended (by decide) hrow hB.size (Nat.le_refl _) hown' hgrow; have hkp := kpB_app hv (by decide) hrow hown' hgrow hat hv1; have hc1 := hv1.cell; have hf1 := hv1.frozen)
    refine ⟨hk2, hkp, ⟨_, hv2, ?_, by simp⟩, hB.trans hb2⟩
    rw [natI_snoc] at hr2
    simpa using hr2
  case done =>
    rintro D ys W hD hys ⟨⟨v, hv, hrow, hnil⟩, hB⟩ hK
    subst hys
    have hc := hv.cell
    have HR := Hid.mk (ownsRow_putObj hrow (.deferred none) hK rfl)
    have HB := Hid.mk (hB.trans (belowK_b (w := w) (Nat.le_refl _) W D _ (.deferred none) (by simp at hD; omega) hK rfl rfl))
    obtain ⟨so, sc, rfl⟩ := own_shape hrow
    clear hnil hrow hv
    gi_wp2_with fail
    refine ⟨by simp, .inl ⟨_, _, rfl, run_takeDeferred hK, ?_⟩⟩
    exact ⟨_, results_tmp rfl _ _ _, so, sc, rfl, HR.out, HB.out⟩
  case stop =>
    rintro D c pre W _ _ h _
    exact h.elim

set_option maxRecDepth 100000 in
set_option maxHeartbeats 1000000 in
theorem w_places (s p : ByteArray) (w : World) :
    Calls Tryz.prog 45 #[.string s, .string p] w fun e w' => e = .returned (.func (.func 64) #[] #[.pointer (some ⟨w.heap.size + 1, 0, none⟩), .pointer (some ⟨w.heap.size, 0, none⟩)]) ∧ w' = (w.alloc (.cells #[.string s] 9)).alloc (.cells #[.string p] 9) := by
  go_enter Tryz.func45, Tryz.ntmps45
  go_wp2_with fail
  go_ret
  exact ⟨rfl, rfl⟩

set_option maxRecDepth 100000 in
set_option maxHeartbeats 1000000 in
theorem w_Collect (Bp Bs : Nat) (s p : ByteArray) (ss : s.size ≤ 4294967296) (w : World) (cp : w.cell? ⟨Bp, 0, none⟩ = some (.string p)) (cs : w.cell? ⟨Bs, 0, none⟩ = some (.string s)) (lp : Bp < w.heap.size) (ls : Bs < w.heap.size) :
    Calls Tryz.prog 44 #[.func (.func 64) #[] #[.pointer (some ⟨Bp, 0, none⟩), .pointer (some ⟨Bs, 0, none⟩)]] w fun e w' => ∃ so sc, e = .returned (.slice so (plcs s p).length sc) ∧ Hid (w'.ownsRow w.heap.size 3 1 (.slice so (plcs s p).length sc) (plcs s p).length (ivals .i64 (natI (plcs s p)))) ∧ Below w.heap.size w w' := by
  have HA := Hid.mk (w_AppendSeq Bp Bs s p ss w cp cs lp ls)
  clear cp cs
  go_enter Tryz.func44, Tryz.ntmps44
  go_wp2_with fail
  refine HA.out.mono ?_
  rintro e w' ⟨so, sc, rfl, HR, hb⟩
  have HB := Hid.mk hb
  clear hb
  go_wp2_with fail
  go_ret
  exact ⟨so, sc, rfl, HR, HB.out⟩
end Go.Proofs.YtbfjpmbninlbbabGreatDoor
