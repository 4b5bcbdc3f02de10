import Derived.Test.YtbfjpmbninlbbabGreatDoorK3
import Derived.Test.YtbfjpmbninlbbabGreatDoorV12
namespace Go.Proofs.YtbfjpmbninlbbabGreatDoor
open Go.RowKit Go.Shelf
set_option linter.unusedVariables false
set_option linter.unusedSimpArgs false
attribute [local go_sem] Oper.semAt_some

/-- append, as one word -/
def appOp (ts : Array TypeId) (ty : TypeId) (args : Array Value) := Builtin.append_ ts ty args
theorem appOp_eq (ts : Array TypeId) (ty : TypeId) (args : Array Value) : Builtin.append_ ts ty args = appOp ts ty args := rfl

theorem Tryz.infoS : (Tryz.prog.info? 9).map (fun i => (i.zero, i.size, i.bytes)) = some (some (.string ⟨#[]⟩), 1, 16) := by kernel_rfl
theorem snoc_ind {α : Type} {P : List α → Prop} (h0 : P []) (h1 : ∀ X q, P X → P (X ++ [q])) (X : List α) : P X := by
  have h : ∀ Y : List α, P Y.reverse := by
    intro Y
    induction Y with
    | nil => simpa using h0
    | cons q Y ih => rw [List.reverse_cons]; exact h1 _ _ ih
  have := h X.reverse
  rwa [List.reverse_reverse] at this
def svals (l : List ByteArray) : List Value := l.map .string
theorem svals_snoc (l : List ByteArray) (x : ByteArray) : svals l ++ [.string x] = svals (l ++ [x]) := by simp [svals]

/-- one place more: the text ahead of it, if it isn't passed -/
def splS (s : ByteArray) (m : Nat) (tb : List ByteArray × Nat) (q : Nat) : List ByteArray × Nat := if tb.2 ≤ q then (tb.1 ++ [s.extract tb.2 q], q + m) else tb
def spl (s : ByteArray) (m : Nat) (X : List Nat) : List ByteArray × Nat := X.foldl (splS s m) ([], 0)
theorem spl_snoc (s : ByteArray) (m : Nat) (X : List Nat) (q : Nat) : spl s m (X ++ [q]) = splS s m (spl s m X) q := by simp [spl]
theorem spl_few (s : ByteArray) (m : Nat) (X : List Nat) : (spl s m X).1.length ≤ X.length := by
  refine snoc_ind (P := fun X => (spl s m X).1.length ≤ X.length) (by simp [spl]) (fun X q ih => ?_) X
  rw [spl_snoc]
  unfold splS
  split <;> simp <;> omega
theorem spl_end (s : ByteArray) (m : Nat) (X : List Nat) : (∀ q ∈ X, q + m ≤ s.size) → (spl s m X).2 ≤ s.size := by
  refine snoc_ind (P := fun X => (∀ q ∈ X, q + m ≤ s.size) → (spl s m X).2 ≤ s.size) (by simp [spl]) (fun X q ih h => ?_) X
  rw [spl_snoc]
  unfold splS
  split
  · exact h q (by simp)
  · exact ih (fun r hr => h r (by simp [hr]))

/-- what has been split off -/
abbrev Plc (s p : ByteArray) := { q : Nat // q + p.size ≤ s.size }
def vals' {s p : ByteArray} (pre : List (Plc s p)) : List Nat := pre.map (·.1)
theorem vals_snoc' {s p : ByteArray} (pre : List (Plc s p)) (x : Plc s p) : vals' (pre ++ [x]) = vals' pre ++ [x.1] := by simp [vals']
theorem vals_le {s p : ByteArray} (pre : List (Plc s p)) : ∀ q ∈ vals' pre, q + p.size ≤ s.size := by
  intro q hq
  obtain ⟨a, _, rfl⟩ := List.mem_map.1 hq
  exact a.2
theorem vals_len' {s p : ByteArray} (pre : List (Plc s p)) : (vals' pre).length = pre.length := by simp [vals']

def SplI (s p : ByteArray) (w : World) (B B1 : Nat) (pre : List (Plc s p)) (W : World) : Prop :=
  (∃ v, Boxed W B 46 v ∧ W.ownsRow w.heap.size 9 1 v (spl s p.size (vals' pre)).1.length (svals (spl s p.size (vals' pre)).1) ∧ True) ∧ (Boxed W B1 3 (.int .i64 ((spl s p.size (vals' pre)).2 : Int)) ∧ Below w.heap.size w W)

theorem SplI.own {s p : ByteArray} {w : World} {B B1 C : Nat} (hC : w.heap.size ≤ C) : OwnFrom C (SplI s p w B B1) :=
  OwnFrom.and (Own.from (holdsRow_own _ _ _ _ _ (fun pre => (spl s p.size (vals' pre)).1.length) (fun pre => svals (spl s p.size (vals' pre)).1) (fun _ _ => True)) _)
    (fun pre A A' row h hg hr => ⟨h.1.kept hg (fun e => by
      obtain ⟨_, o, ho, hc⟩ := hr B1 e.symm
      rw [show A.heap[B1]? = _ from h.1] at ho; cases ho; cases hc), h.2.grown hg h.2.size (fun r e => Nat.le_trans hC (hr r e).1)⟩)

set_option maxRecDepth 100000 in
set_option maxHeartbeats 1000000 in
theorem w_places' (s p : ByteArray) (w : World) :
    Calls Tryz.prog 45 #[.string s, .string p] w fun e w' => e = .returned (.func (.func 64) #[] #[.pointer (some ⟨w.heap.size + 1, 0, none⟩), .pointer (some ⟨w.heap.size, 0, none⟩)]) ∧ w' = (w.alloc (.cells #[.string s] 9)).alloc (.cells #[.string p] 9) := by
  go_enter Tryz.func45, Tryz.ntmps45
  go_wp2_with fail
  go_ret
  exact ⟨rfl, rfl⟩

theorem kpB_app2 {W w1 : World} {B B1 : Nat} {t : TypeId} {v v' u' : Value} {tmp : Obj}
    (hv : Boxed W B t v) (hgrow : (W.alloc tmp).grownBy w1 v.ownBlock) (hat : v'.ownBlock = v.ownBlock ∨ v'.ownBlock = some (W.alloc tmp).heap.size) (hv1 : Boxed w1 B t v) (hne : B1 ≠ B) :
    KpB (fun b => b = B ∨ b = B1) B W ((w1.setCell ⟨B, 0, none⟩ v').setCell ⟨B1, 0, none⟩ u') := by
  have hsz := hgrow.size
  simp at hsz
  have hr0 : rowAt W B = v.ownBlock := by unfold rowAt; rw [hv.cell]; rfl
  have hr1 : rowAt ((w1.setCell ⟨B, 0, none⟩ v').setCell ⟨B1, 0, none⟩ u') B = v'.ownBlock := by
    unfold rowAt; rw [World.cell?_setCell_other _ _ _ _ (by simp <;> omega), (hv1.set v').cell]; rfl
  refine ⟨by simp; omega, fun b o hb hr ho hc => ?_, ?_⟩
  · rw [Below.heap_setCell _ _ _ _ (fun h => hb (.inr h)), Below.heap_setCell _ _ _ _ (fun h => hb (.inl h))]
    have hlt := (Array.getElem?_eq_some_iff.1 ho).1
    rw [hgrow.block b (by simp; omega) (by rw [← hr0]; exact Ne.symm hr), Below.heap_alloc _ _ _ hlt]
    exact ho
  · rw [hr1, hr0]
    rcases hat with h | h
    · exact .inl h
    · exact .inr ⟨_, h, by simp⟩

attribute [local go_sem ↓] appOp_eq

set_option maxRecDepth 100000 in
set_option maxHeartbeats 4000000 in
theorem w_Split_part (s p : ByteArray) (ss : s.size ≤ 1048576) (hp : 0 < p.size) (hs0 : 0 < s.size) (w : World) :
    Calls Tryz.prog 24 #[.string s, .string p] w fun e w' => ∃ v, e = .returned v ∧ Hid (w'.ownsRow w.heap.size 9 1 v ((spl s p.size (plcs s p)).1.length + 1) (svals ((spl s p.size (plcs s p)).1 ++ [s.extract (spl s p.size (plcs s p)).2 s.size]))) ∧ Below w.heap.size w w' := by
  obtain ⟨i0, hi0, hz0, hz1, hz2⟩ := info_parts Tryz.infoS
  have hne1 : (s.toList.isEmpty) = false := by
    rw [Lib.toList_data]
    have e := size_len s
    cases h : s.data.toList with
    | nil => rw [h] at e; exact absurd e (by simp; omega)
    | cons _ _ => rfl
  have hne2 : (p.toList.isEmpty) = false := by
    rw [Lib.toList_data]
    have e := size_len p
    cases h : p.data.toList with
    | nil => rw [h] at e; exact absurd e (by simp; omega)
    | cons _ _ => rfl
  have hmx : Tryz.prog.follows .mixedOrders = true := by kernel_rfl
  refine (callsIn_wide (n := 5)).1 ?_
  refine callsIn_of_wp_marks Tryz.func24 rfl trivial ?_ rfl
  simp only [Tryz.ntmps24, List.size_toArray, List.length_cons, List.length_nil, Nat.reduceAdd, Nat.reduceSub, Array.replicate_succ, Array.replicate_zero, List.push_toArray, List.append_toArray, List.nil_append, List.cons_append]
  gi_wp2_with fail
  refine ⟨trivial, (callsIn_wide.2 (w_places' s p _)).mono ?_⟩
  rintro e w6 ⟨rfl, hw6⟩
  obtain ⟨w2, hw2⟩ : ∃ w2 : World, w2 = (w.alloc (.cells #[.string s] 9)).alloc (.cells #[.string p] 9) := ⟨_, rfl⟩
  have z2 : w2.heap.size = w.heap.size + 1 + 1 := by rw [hw2]; simp
  have z6 : w6.heap.size = w.heap.size + 1 + 1 + 1 + 1 + 1 + 1 := by rw [hw6]; simp
  have b2 : Below w.heap.size w w2 := by rw [hw2]; exact ((Below.refl _ _).alloc (Nat.le_refl _) _).alloc (by simp) _
  have b6 : Below w2.heap.size w2 w6 := by
    rw [hw6, ← hw2]
    exact ((((Below.refl _ w2).alloc (Nat.le_refl _) _).alloc (by simp) _).alloc (by simp; omega) _).alloc (by simp; omega) _
  have cS2 : w2.cell? ⟨w.heap.size, 0, none⟩ = some (.string s) := by rw [hw2]; simp [go_sem]
  have cP2 : w2.cell? ⟨w.heap.size + 1, 0, none⟩ = some (.string p) := by rw [hw2]; simp [go_sem]
  have B0 : Boxed w6 (w.heap.size + 1 + 1) 46 (.slice none 0 0) := by
    rw [hw6, ← hw2, ← z2]; exact (((Boxed.new w2 _ _).alloc _).alloc _).alloc _
  have B1 : Boxed w6 (w.heap.size + 1 + 1 + 1) 3 (.int .i64 0) := by
    have h := Boxed.new (w2.alloc (.cells #[.slice none 0 0] 46)) 3 (.int .i64 0)
    rw [World.size_alloc] at h
    rw [hw6, ← hw2, ← z2]; exact (h.alloc _).alloc _
  have cS6 : w6.cell? ⟨w.heap.size + 1 + 1 + 1 + 1, 0, none⟩ = some (.string s) := by rw [hw6]; simp [go_sem]
  have cP6 : w6.cell? ⟨w.heap.size + 1 + 1 + 1 + 1 + 1, 0, none⟩ = some (.string p) := by rw [hw6]; simp [go_sem]
  have HZ := Hid.mk (And.intro z2 (And.intro z6 hw2))
  have hz2 : w.heap.size + 1 + 1 ≤ w2.heap.size := by omega
  have hz6 : w.heap.size + 1 + 1 + 1 + 1 + 1 + 1 ≤ w6.heap.size := by omega
  have hz2' : w2.heap.size ≤ w.heap.size + 1 + 1 := by omega
  have HB2 := Hid.mk b2
  have HB6 := Hid.mk b6
  have HC2 := Hid.mk (And.intro cS2 cP2)
  have HI0 : Hid (SplI s p w2 (w.heap.size + 1 + 1) (w.heap.size + 1 + 1 + 1) [] w6) := ⟨⟨_, B0, World.ownsRow_nil _ _ _ _, trivial⟩, B1, b6⟩
  have hrow0 : rowAt w6 (w.heap.size + 1 + 1) = none := by unfold rowAt; rw [B0.cell]; rfl
  have HSq := Hid.mk (places_stopsB (fun b => b = w.heap.size + 1 + 1 ∨ b = w.heap.size + 1 + 1 + 1) (5 - 1) (by omega) (w.heap.size + 1 + 1) (w.heap.size + 1 + 1 + 1 + 1 + 1) (w.heap.size + 1 + 1 + 1 + 1) s p (by omega) w6 cP6 cS6 hrow0 (by omega) (by omega) (by omega) (by omega) (by omega) (fun b h => by omega))
  clear hw6 hw2 z2 z6 b2 b6 cS2 cP2 B0 B1 cS6 cP6 hrow0 hne1 hne2
  gi_wp2_with fail
  refine wpIn_rangeFunc_ownF rfl (by omega) (gf := 64) (lb := #[.pointer (some ⟨w.heap.size + 1 + 1 + 1 + 1 + 1, 0, none⟩), .pointer (some ⟨w.heap.size + 1 + 1 + 1 + 1, 0, none⟩)]) rfl trivial (enters_of Tryz.func64 (by kernel_rfl) rfl)
    HSq.out (fun h k => h.trans k) (KpB.put (by omega)) (Below.refl _ _) (fun _ => rfl)
    (SplI s p w2 (w.heap.size + 1 + 1) (w.heap.size + 1 + 1 + 1)) (fun _ _ _ => False) (SplI.own (by omega)) (fun _ _ _ _ _ hs _ _ => hs) HI0.out ?a1 ?assign ?body ?done ?stop
  case assign =>
    intro l x W K hK
    gi_wp2_with fail
    exact hK
  case body =>
    rintro l pre x W hI hlt
    have HI := Hid.mk hI
    obtain ⟨⟨v, hv, hrow, _⟩, hb1, hB⟩ := hI
    have c0 := hv.cell
    have c1 := hb1.cell
    have cS := (hB.cell (p := ⟨w.heap.size, 0, none⟩) (by show w.heap.size < _; omega)).trans HC2.out.1
    have cP := (hB.cell (p := ⟨w.heap.size + 1, 0, none⟩) (by show w.heap.size + 1 < _; omega)).trans HC2.out.2
    obtain ⟨ts, hts⟩ : ∃ ts, ts = (spl s p.size (vals' pre)).1 := ⟨_, rfl⟩
    obtain ⟨bg, hbg⟩ : ∃ bg, bg = (spl s p.size (vals' pre)).2 := ⟨_, rfl⟩
    have hbs : bg ≤ s.size := by rw [hbg]; exact spl_end s p.size _ (vals_le pre)
    have hfew : ts.length ≤ s.size := by have := spl_few s p.size (vals' pre); rw [vals_len'] at this; rw [hts]; omega
    rw [← hts] at hrow
    rw [← hbg] at c1 hb1
    obtain ⟨q, hq⟩ := x
    obtain ⟨so, sc, rfl⟩ := own_shape hrow
    have HSn : Hid (spl s p.size (vals' (pre ++ [⟨q, hq⟩])) = splS s p.size (ts, bg) q) := by show _ = _; rw [vals_snoc', spl_snoc, hts, hbg]
    clear hts hbg
    by_cases hge : bg ≤ q
    · have hg1 : (bg : Int) ≤ (q : Int) := by omega
      have hg2 : (q : Int) ≤ (s.size : Int) := by omega
      have hg3 : (0 : Int) ≤ (bg : Int) := by omega
      have hsz := hB.size
      obtain ⟨v', w1, hrun, hown', hgrow, hnil, hat⟩ := run_append_own_at (P := Tryz.prog) (W.drew.alloc (.cells #[.string (s.extract bg q)] 9)) w2.heap.size 46 46 9 i0 (.string ⟨#[]⟩) 1 16 Tryz.underlying46 hi0 hz0 hz1 (by assumption) rfl (by decide) (.slice so ts.length sc) ts.length (svals ts) (World.ownsRow.alloc (w := W.drew) hrow _) ⟨W.heap.size, 0, none⟩ 1 1 [.string (s.extract bg q)] rfl (cell_one_new W.drew _ _) (by simp [Value.oneCell']) (by unfold maxLen; omega) (by omega) (by simp; omega)
      obtain ⟨g', cap', rfl⟩ := ownsRow_succ hown'
      obtain ⟨hv1, hv2, hr2, hk2, hb2⟩ := Boxed.appended (W := W.drew) hv (by decide) hrow hsz (by omega) hown' hgrow
      have hc2 := hv1.cell
      have hf2 := hv1.frozen
      have hb15 : Boxed (w1.setCell ⟨w.heap.size + 1 + 1, 0, none⟩ (.slice (some ⟨g', 0, none⟩) (ts.length + 1) cap')) (w.heap.size + 1 + 1 + 1) 3 (.int .i64 (bg : Int)) := by
        have h1 : Boxed w1 (w.heap.size + 1 + 1 + 1) 3 (.int .i64 (bg : Int)) := (Boxed.alloc (W := W.drew) hb1 _).kept hgrow (Boxed.not_row (W := W.drew) hb1 (by decide) hrow)
        exact (Below.heap_setCell _ _ _ _ (by show w.heap.size + 1 + 1 + 1 ≠ w.heap.size + 1 + 1; omega)).trans h1
      have c15 := hb15.cell
      have f15 := hb15.frozen
      have cP5 : (w1.setCell ⟨w.heap.size + 1 + 1, 0, none⟩ (.slice (some ⟨g', 0, none⟩) (ts.length + 1) cap')).cell? ⟨w.heap.size + 1, 0, none⟩ = some (.string p) := (hb2.cell (p := ⟨w.heap.size + 1, 0, none⟩) (by show w.heap.size + 1 < _; omega)).trans cP
      have FIN : Hid (KeepsOthers W ((w1.setCell ⟨w.heap.size + 1 + 1, 0, none⟩ (.slice (some ⟨g', 0, none⟩) (ts.length + 1) cap')).setCell ⟨w.heap.size + 1 + 1 + 1, 0, none⟩ (.int .i64 ((q : Int) + (p.size : Int)))) ∧ KpB (fun b => b = w.heap.size + 1 + 1 ∨ b = w.heap.size + 1 + 1 + 1) (w.heap.size + 1 + 1) W ((w1.setCell ⟨w.heap.size + 1 + 1, 0, none⟩ (.slice (some ⟨g', 0, none⟩) (ts.length + 1) cap')).setCell ⟨w.heap.size + 1 + 1 + 1, 0, none⟩ (.int .i64 ((q : Int) + (p.size : Int)))) ∧ SplI s p w2 (w.heap.size + 1 + 1) (w.heap.size + 1 + 1 + 1) (pre ++ [⟨q, hq⟩]) ((w1.setCell ⟨w.heap.size + 1 + 1, 0, none⟩ (.slice (some ⟨g', 0, none⟩) (ts.length + 1) cap')).setCell ⟨w.heap.size + 1 + 1 + 1, 0, none⟩ (.int .i64 ((q : Int) + (p.size : Int))))) := by
        have hsn := HSn.out
        unfold splS at hsn
        rw [if_pos hge] at hsn
        refine ⟨(((KeepsOthers.drew W).trans hk2).trans (KeepsOthers.setCell _ _ _)), ?_, ⟨.slice (some ⟨g', 0, none⟩) (ts.length + 1) cap', ?_, ?_, trivial⟩, ?_, ?_⟩
        · obtain ⟨k1, k2, k3⟩ := kpB_app2 (W := W.drew) (B := w.heap.size + 1 + 1) (B1 := w.heap.size + 1 + 1 + 1) (u' := .int .i64 ((q : Int) + (p.size : Int))) hv hgrow hat hv1 (Nat.succ_ne_self _)
          exact ⟨k1, k2, k3⟩
        · exact (Below.heap_setCell _ _ _ _ (by show w.heap.size + 1 + 1 ≠ w.heap.size + 1 + 1 + 1; omega)).trans hv2
        · rw [hsn]
          have h3 := hr2.kept (grownBy_setCell' _ (w.heap.size + 1 + 1 + 1) (.int .i64 ((q : Int) + (p.size : Int)))) (.inr (Ne.symm (hb15.not_row (by decide) hr2)))
          rw [svals_snoc] at h3
          rw [List.length_append]
          exact h3
        · rw [hsn]; exact hb15.set _
        · have hd : Below w2.heap.size W W.drew := (Below.refl _ W).drew
          exact (hB.trans (hd.trans hb2)).setCell (p := ⟨w.heap.size + 1 + 1 + 1, 0, none⟩) (by show _ ≤ w.heap.size + 1 + 1 + 1; omega) _
      clear hv1 hv2 hr2 hk2 hb2 hown' hgrow hnil hat hb15
      have hrun' : (appOp #[46, 46] 46 #[.slice so ts.length sc, .slice (some ⟨W.heap.size, 0, none⟩) 1 1]).run Tryz.prog (W.alloc (.cells #[.string (s.extract bg q)] 9)).drew = .ok (.slice (some ⟨g', 0, none⟩) (ts.length + 1) cap') w1 := hrun
      clear hrun
      have e0 : ∀ o, (W.alloc o).cell? ⟨w.heap.size + 1 + 1, 0, none⟩ = some (.slice so ts.length sc) := fun o => (hv.alloc o).cell
      gi_wp2_with fail
      gi_region_with_o fail
      all_goals gi_wp2_with fail
      all_goals exact FIN.out
    · have hg1 : ¬ (bg : Int) ≤ (q : Int) := by omega
      have FIN : Hid (SplI s p w2 (w.heap.size + 1 + 1) (w.heap.size + 1 + 1 + 1) (pre ++ [⟨q, hq⟩]) W) := by
        have hsn := HSn.out
        unfold splS at hsn
        rw [if_neg hge] at hsn
        refine ⟨⟨_, hv, ?_, trivial⟩, ?_, hB⟩
        · rw [hsn]; exact hrow
        · rw [hsn]; exact hb1
      gi_wp2_with fail
      exact ⟨KeepsOthers.refl _, KpB.refl _ _ _, FIN.out⟩
  case done =>
    rintro D ys W hD hys hI hK
    obtain ⟨⟨v, hv, hrow, _⟩, hb1, hB⟩ := hI
    have hvx : vals' ys = plcs s p := hys
    rw [hvx] at hrow hb1
    have hble : ∀ q ∈ plcs s p, q + p.size ≤ s.size := by rw [← hvx]; exact vals_le ys
    have hbs := spl_end s p.size _ hble
    have hfw := spl_few s p.size (plcs s p)
    have hpl : (plcs s p).length ≤ s.size := by
      unfold plcs
      split
      · simp
      · exact occs_len s.size
    generalize hsp : spl s p.size (plcs s p) = sp at hrow hb1 hbs hfw
    have HSP := Hid.mk hsp
    obtain ⟨ts, bg⟩ := sp
    dsimp only at hrow hb1 hbs hfw
    clear hsp hvx hys hble
    have c0 := hv.cell
    have c1 := hb1.cell
    have cS := (hB.cell (p := ⟨w.heap.size, 0, none⟩) (by show w.heap.size < _; omega)).trans HC2.out.1
    obtain ⟨so, sc, rfl⟩ := own_shape hrow
    have hg1 : (bg : Int) ≤ (s.size : Int) := by omega
    have hg3 : (0 : Int) ≤ (bg : Int) := by omega
    have hsz := hB.size
    obtain ⟨v', w1, hrun, hown', hgrow, hnil, hat⟩ := run_append_own_at (P := Tryz.prog) (W.drew.alloc (.cells #[.string (s.extract bg s.size)] 9)) w2.heap.size 46 46 9 i0 (.string ⟨#[]⟩) 1 16 Tryz.underlying46 hi0 hz0 hz1 (by assumption) rfl (by decide) (.slice so ts.length sc) ts.length (svals ts) (World.ownsRow.alloc (w := W.drew) hrow _) ⟨W.heap.size, 0, none⟩ 1 1 [.string (s.extract bg s.size)] rfl (cell_one_new W.drew _ _) (by simp [Value.oneCell']) (by unfold maxLen; omega) (by omega) (by simp; omega)
    obtain ⟨g', cap', rfl⟩ := ownsRow_succ hown'
    have hdlt := (Array.getElem?_eq_some_iff.1 hK).1
    have hK1 : w1.heap[D]? = some (.deferred (some [])) := by
      refine (hgrow.block D (by simp; omega) ?_).trans ((Below.heap_alloc W.drew _ D hdlt).trans hK)
      rcases hrow.2 with ⟨e, _⟩ | ⟨g, cap, cur, e, _, hg, _⟩
      · simp only [Value.slice.injEq] at e; rw [e.1]; simp [Value.ownBlock]
      · simp only [Value.slice.injEq] at e
        rw [e.1]
        intro e2
        simp [Value.ownBlock] at e2
        subst e2
        rw [hK] at hg; cases hg
    have FIN : Hid ((w1.putObj D (.deferred none)).ownsRow w.heap.size 9 1 (.slice (some ⟨g', 0, none⟩) (ts.length + 1) cap') (ts.length + 1) (svals (ts ++ [s.extract bg s.size])) ∧ Below w.heap.size w (w1.putObj D (.deferred none))) := by
      have hbw := HB2.out.size
      refine ⟨?_, ?_⟩
      · have h3 := ownsRow_putObj hown' (.deferred none) hK1 rfl
        rw [svals_snoc] at h3
        exact ⟨h3.1, h3.2.imp id (fun ⟨g, cap, cur, e, hb, rest⟩ => ⟨g, cap, cur, e, Nat.le_trans hbw hb, rest⟩)⟩
      · have h4 : Below w2.heap.size W w1 := (((Below.refl _ W).drew).alloc hsz _).grown hgrow (by simp; omega) (own_base hrow)
        have h5 := hB.trans h4
        exact (HB2.out.trans (h5.mono hbw)).trans (belowK_b (w := w) (Nat.le_refl _) w1 D _ (.deferred none) (by omega) hK1 rfl rfl)
    have hrun' : (appOp #[46, 46] 46 #[.slice so ts.length sc, .slice (some ⟨W.heap.size, 0, none⟩) 1 1]).run Tryz.prog (W.alloc (.cells #[.string (s.extract bg s.size)] 9)).drew = .ok (.slice (some ⟨g', 0, none⟩) (ts.length + 1) cap') w1 := hrun
    have e0 : ∀ o, (W.alloc o).cell? ⟨w.heap.size + 1 + 1, 0, none⟩ = some (.slice so ts.length sc) := fun o => (hv.alloc o).cell
    clear hrun hown' hgrow hnil hat hK
    gi_wp2_with fail
    refine Code.wpIn_mono NoPanic.imp ?_
    gi_region_with_o fail
    all_goals refine NoPanic.normal ?_
    all_goals gi_wp2_with fail
    all_goals refine ⟨by simp, .inl ⟨_, _, rfl, run_takeDeferred hK1, ?_⟩⟩
    all_goals refine ⟨.slice (some ⟨g', 0, none⟩) (ts.length + 1) cap', ?_, _, rfl, ?_, FIN.out.2⟩
    all_goals first | (rw [HSP.out]; exact FIN.out.1) | simp [results, Tryz.results24, go_sem]
  case stop =>
    rintro D c pre W _ _ h _
    exact h.elim
end Go.Proofs.YtbfjpmbninlbbabGreatDoor
