import Derived.Test.YtbfjpmbninlbbabGreatDoorM15
import Derived.Test.YtbfjpmbninlbbabGreatDoorM17
import Derived.Test.YtbfjpmbninlbbabGreatDoorM16
import Derived.Test.YtbfjpmbninlbbabGreatDoorM22
namespace Go.Proofs.YtbfjpmbninlbbabGreatDoor
open Go.RowKit Go.Shelf
set_option linter.unusedVariables false
set_option linter.unusedSimpArgs false
attribute [local go_sem] Oper.semAt_some

/-- append, as one word -/
def appOp (ts : Array TypeId) (ty : TypeId) (args : Array Value) := Builtin.append_ ts ty args
theorem appOp_eq (ts : Array TypeId) (ty : TypeId) (args : Array Value) : Builtin.append_ ts ty args = appOp ts ty args := rfl

theorem Tryz.infoS : (Tryz.prog.info? 9).map (fun i => (i.zero, i.size, i.bytes)) = some (some (.string ⟨#[]⟩), 1, 16) := by kernel_rfl
theorem snoc_ind {α : Type} {P : List α → Prop} (h0 : P []) (h1 : ∀ X q, P X → P (X ++ [q])) (X : List α) : P X := by
  have h : ∀ Y : List α, P Y.reverse := by
    intro Y
    induction Y with
    | nil => simpa using h0
    | cons q Y ih => rw [List.reverse_cons]; exact h1 _ _ ih
  have := h X.reverse
  rwa [List.reverse_reverse] at this
def svals (l : List ByteArray) : List Value := l.map .string
theorem svals_snoc (l : List ByteArray) (x : ByteArray) : svals l ++ [.string x] = svals (l ++ [x]) := by simp [svals]

/-- one place more: the text ahead of it, if it isn't passed -/
def splS (s : ByteArray) (m : Nat) (tb : List ByteArray × Nat) (q : Nat) : List ByteArray × Nat := if tb.2 ≤ q then (tb.1 ++ [s.extract tb.2 q], q + m) else tb
def spl (s : ByteArray) (m : Nat) (X : List Nat) : List ByteArray × Nat := X.foldl (splS s m) ([], 0)
theorem spl_snoc (s : ByteArray) (m : Nat) (X : List Nat) (q : Nat) : spl s m (X ++ [q]) = splS s m (spl s m X) q := by simp [spl]
theorem spl_few (s : ByteArray) (m : Nat) (X : List Nat) : (spl s m X).1.length ≤ X.length := by
  refine snoc_ind (P := fun X => (spl s m X).1.length ≤ X.length) (by simp [spl]) (fun X q ih => ?_) X
  rw [spl_snoc]
  unfold splS
  split <;> simp <;> omega
theorem spl_end (s : ByteArray) (m : Nat) (X : List Nat) : (∀ q ∈ X, q + m ≤ s.size) → (spl s m X).2 ≤ s.size := by
  refine snoc_ind (P := fun X => (∀ q ∈ X, q + m ≤ s.size) → (spl s m X).2 ≤ s.size) (by simp [spl]) (fun X q ih h => ?_) X
  rw [spl_snoc]
  unfold splS
  split
  · exact h q (by simp)
  · exact ih (fun r hr => h r (by simp [hr]))

/-- what has been split off -/
abbrev Plc (s p : ByteArray) := { q : Nat // q + p.size ≤ s.size }
def vals' {s p : ByteArray} (pre : List (Plc s p)) : List Nat := pre.map (·.1)
theorem vals_snoc' {s p : ByteArray} (pre : List (Plc s p)) (x : Plc s p) : vals' (pre ++ [x]) = vals' pre ++ [x.1] := by simp [vals']
theorem vals_le {s p : ByteArray} (pre : List (Plc s p)) : ∀ q ∈ vals' pre, q + p.size ≤ s.size := by
  intro q hq
  obtain ⟨a, _, rfl⟩ := List.mem_map.1 hq
  exact a.2
theorem vals_len' {s p : ByteArray} (pre : List (Plc s p)) : (vals' pre).length = pre.length := by simp [vals']

def SplI (s p : ByteArray) (w : World) (B B1 : Nat) (pre : List (Plc s p)) (W : World) : Prop :=
  (∃ v, Boxed W B 46 v ∧ W.ownsRow w.heap.size 9 1 v (spl s p.size (vals' pre)).1.length (svals (spl s p.size (vals' pre)).1) ∧ True) ∧ (Boxed W B1 3 (.int .i64 ((spl s p.size (vals' pre)).2 : Int)) ∧ Below w.heap.size w W)

theorem SplI.own {s p : ByteArray} {w : World} {B B1 C : Nat} (hC : w.heap.size ≤ C) : OwnFrom C (SplI s p w B B1) :=
  OwnFrom.and (Own.from (holdsRow_own _ _ _ _ _ (fun pre => (spl s p.size (vals' pre)).1.length) (fun pre => svals (spl s p.size (vals' pre)).1) (fun _ _ => True)) _)
    (fun pre A A' row h hg hr => ⟨h.1.kept hg (fun e => by
      obtain ⟨_, o, ho, hc⟩ := hr B1 e.symm
      rw [show A.heap[B1]? = _ from h.1] at ho; cases ho; cases hc), h.2.grown hg h.2.size (fun r e => Nat.le_trans hC (hr r e).1)⟩)

set_option maxRecDepth 100000 in
set_option maxHeartbeats 1000000 in
theorem w_places' (s p : ByteArray) (w : World) :
    Calls Tryz.prog 45 #[.string s, .string p] w fun e w' => e = .returned (.func (.func 64) #[] #[.pointer (some ⟨w.heap.size + 1, 0, none⟩), .pointer (some ⟨w.heap.size, 0, none⟩)]) ∧ w' = (w.alloc (.cells #[.string s] 9)).alloc (.cells #[.string p] 9) := by
  go_enter Tryz.func45, Tryz.ntmps45
  go_wp2_with fail
  go_ret
  exact ⟨rfl, rfl⟩

theorem kpB_app2 {W w1 : World} {B B1 : Nat} {t : TypeId} {v v' u' : Value} {tmp : Obj}
    (hv : Boxed W B t v) (hgrow : (W.alloc tmp).grownBy w1 v.ownBlock) (hat : v'.ownBlock = v.ownBlock ∨ v'.ownBlock = some (W.alloc tmp).heap.size) (hv1 : Boxed w1 B t v) (hne : B1 ≠ B) :
    KpB (fun b => b = B ∨ b = B1) B W ((w1.setCell ⟨B, 0, none⟩ v').setCell ⟨B1, 0, none⟩ u') := by
  have hsz := hgrow.size
  simp at hsz
  have hr0 : rowAt W B = v.ownBlock := by unfold rowAt; rw [hv.cell]; rfl
  have hr1 : rowAt ((w1.setCell ⟨B, 0, none⟩ v').setCell ⟨B1, 0, none⟩ u') B = v'.ownBlock := by
    unfold rowAt; rw [World.cell?_setCell_other _ _ _ _ (by simp <;> omega), (hv1.set v').cell]; rfl
  refine ⟨by simp; omega, fun b o hb hr ho hc => ?_, ?_⟩
  · rw [Below.heap_setCell _ _ _ _ (fun h => hb (.inr h)), Below.heap_setCell _ _ _ _ (fun h => hb (.inl h))]
    have hlt := (Array.getElem?_eq_some_iff.1 ho).1
    rw [hgrow.block b (by simp; omega) (by rw [← hr0]; exact Ne.symm hr), Below.heap_alloc _ _ _ hlt]
    exact ho
  · rw [hr1, hr0]
    rcases hat with h | h
    · exact .inl h
    · exact .inr ⟨_, h, by simp⟩

attribute [local go_sem ↓] appOp_eq

set_option maxRecDepth 100000 in
set_option maxHeartbeats 4000000 in
theorem w_Split_part (s p : ByteArray) (ss : s.size ≤ 1048576) (hp : 0 < p.size) (hs0 : 0 < s.size) (w : World) :
    Calls Tryz.prog 24 #[.string s, .string p] w fun e w' => ∃ v, e = .returned v ∧ Hid (w'.ownsRow w.heap.size 9 1 v ((spl s p.size (plcs s p)).1.length + 1) (svals ((spl s p.size (plcs s p)).1 ++ [s.extract (spl s p.size (plcs s p)).2 s.size]))) ∧ Below w.heap.size w w' := by
  obtain ⟨i0, hi0, hz0, hz1, hz2⟩ := info_parts Tryz.infoS
  have hne1 : (s.toList.isEmpty) = false := by
    rw [Lib.toList_data]
    have e := size_len s
    cases h : s.data.toList with
    | nil => rw [h] at e; exact absurd e (by simp; omega)
    | cons _ _ => rfl
  have hne2 : (p.toList.isEmpty) = false := by
    rw [Lib.toList_data]
    have e := size_len p
    cases h : p.data.toList with
    | nil => rw [h] at e; exact absurd e (by simp; omega)
    | cons _ _ => rfl
  have hmx : Tryz.prog.follows .mixedOrders = true := by kernel_rfl
  refine (callsIn_wide (n := 5)).1 ?_
  refine callsIn_of_wp_marks Tryz.func24 rfl trivial ?_ rfl
  simp only [Tryz.ntmps24, List.size_toArray, List.length_cons, List.length_nil, Nat.reduceAdd, Nat.reduceSub, Array.replicate_succ, Array.replicate_zero, List.push_toArray, List.append_toArray, List.nil_append, List.cons_append]
  gi_wp2_with fail
  refine ⟨trivial, (callsIn_wide.2 (w_places' s p _)).mono ?_⟩
  rintro e w6 ⟨rfl, hw6⟩
  obtain ⟨w2, hw2⟩ : ∃ w2 : World, w2 = (w.alloc (.cells #[.string s] 9)).alloc (.cells #[.string p] 9) := ⟨_, rfl⟩
  have z2 : w2.heap.size = w.heap.size + 1 + 1 := by rw [hw2]; simp
  have z6 : w6.heap.size = w.heap.size + 1 + 1 + 1 + 1 + 1 + 1 := by rw [hw6]; simp
  have b2 : Below w.heap.size w w2 := by rw [hw2]; exact ((Below.refl _ _).alloc (Nat.le_refl _) _).alloc (by simp) _
  have b6 : Below w2.heap.size w2 w6 := by
    rw [hw6, ← hw2]
    exact ((((Below.refl _ w2).alloc (Nat.le_refl _) _).alloc (by simp) _).alloc (by simp; omega) _).alloc (by simp; omega) _
  have cS2 : w2.cell? ⟨w.heap.size, 0, none⟩ = some (.string s) := by rw [hw2]; simp [go_sem]
  have cP2 : w2.cell? ⟨w.heap.size + 1, 0, none⟩ = some (.string p) := by rw [hw2]; simp [go_sem]
  have B0 : Boxed w6 (w.heap.size + 1 + 1) 46 (.slice none 0 0) := by
    rw [hw6, ← hw2, ← z2]; exact (((Boxed.new w2 _ _).alloc _).alloc _).alloc _
  have B1 : Boxed w6 (w.heap.size + 1 + 1 + 1) 3 (.int .i64 0) := by
    have h := Boxed.new (w2.alloc (.cells #[.slice none 0 0] 46)) 3 (.int .i64 0)
    rw [World.size_alloc] at h
    rw [hw6, ← hw2, ← z2]; exact (h.alloc _).alloc _
  have cS6 : w6.cell? ⟨w.heap.size + 1 + 1 + 1 + 1, 0, none⟩ = some (.string s) := by rw [hw6]; simp [go_sem]
  have cP6 : w6.cell? ⟨w.heap.size + 1 + 1 + 1 + 1 + 1, 0, none⟩ = some (.string p) := by rw [hw6]; simp [go_sem]
  have HZ := Hid.mk (And.intro z2 (And.intro z6 hw2))
  have hz2 : w.heap.size + 1 + 1 ≤ w2.heap.size := by omega
  have hz6 : w.heap.size + 1 + 1 + 1 + 1 + 1 + 1 ≤ w6.heap.size := by omega
  have hz2' : w2.heap.size ≤ w.heap.size + 1 + 1 := by omega
  have HB2 := Hid.mk b2
  have HB6 := Hid.mk b6
  have HC2 := Hid.mk (And.intro cS2 cP2)
  have HI0 : Hid (SplI s p w2 (w.heap.size + 1 + 1) (w.heap.size + 1 + 1 + 1) [] w6) := ⟨⟨_, B0, World.ownsRow_nil _ _ _ _, trivial⟩, B1, b6⟩
  have hrow0 : rowAt w6 (w.heap.size + 1 + 1) = none := by unfold rowAt; rw [B0.cell]; rfl
  have HSq := Hid.mk (places_stopsB (fun b => b = w.heap.size + 1 + 1 ∨ b = w.heap.size + 1 + 1 + 1) (5 - 1) (by omega) (w.heap.size + 1 + 1) (w.heap.size + 1 + 1 + 1 + 1 + 1) (w.heap.size + 1 + 1 + 1 + 1) s p (by omega) w6 cP6 cS6 hrow0 (by omega) (by omega) (by omega) (by omega) (by omega) (fun b h => by omega))
  clear hw6 hw2 z2 z6 b2 b6 cS2 cP2 B0 B1 cS6 cP6 hrow0 hne1 hne2
  gi_wp2_with fail
  refine wpIn_rangeFunc_ownF rfl (by omega) (gf := 64) (lb := #[.pointer (some ⟨w.heap.size + 1 + 1 + 1 + 1 + 1, 0, none⟩), .pointer (some ⟨w.heap.size + 1 + 1 + 1 + 1, 0, none⟩)]) rfl trivial (enters_of Tryz.func64 (by kernel_rfl) rfl)
    HSq.out (fun h k => h.trans k) (KpB.put (by omega)) (Below.refl _ _) (fun _ => rfl)
    (SplI s p w2 (w.heap.size + 1 + 1) (w.heap.size + 1 + 1 + 1)) (fun _ _ _ => False) (SplI.own (by omega)) (fun _ _ _ _ _ hs _ _ => hs) HI0.out ?a1 ?assign ?body ?done ?stop
  case assign =>
    intro l x W K hK
    gi_wp2_with fail
    exact hK
  case body =>
    rintro l pre x W hI hlt
    have HI := Hid.mk hI
    obtain ⟨⟨v, hv, hrow, _⟩, hb1, hB⟩ := hI
    have c0 := hv.cell
    have c1 := hb1.cell
    have cS := (hB.cell (p := ⟨w.heap.size, 0, none⟩) (by show w.heap.size < _; omega)).trans HC2.out.1
    have cP := (hB.cell (p := ⟨w.heap.size + 1, 0, none⟩) (by show w.heap.size + 1 < _; omega)).trans HC2.out.2
    obtain ⟨ts, hts⟩ : ∃ ts, ts = (spl s p.size (vals' pre)).1 := ⟨_, rfl⟩
    obtain ⟨bg, hbg⟩ : ∃ bg, bg = (spl s p.size (vals' pre)).2 := ⟨_, rfl⟩
    have hbs : bg ≤ s.size := by rw [hbg]; exact spl_end s p.size _ (vals_le pre)
    have hfew : ts.length ≤ s.size := by have := spl_few s p.size (vals' pre); rw [vals_len'] at this; rw [hts]; omega
    rw [← hts] at hrow
    rw [← hbg] at c1 hb1
    obtain ⟨q, hq⟩ := x
    obtain ⟨so, sc, rfl⟩ := own_shape hrow
    have HSn : Hid (spl s p.size (vals' (pre ++ [⟨q, hq⟩])) = splS s p.size (ts, bg) q) := by show _ = _; rw [vals_snoc', spl_snoc, hts, hbg]
    clear hts hbg
    by_cases hge : bg ≤ q
    · have hg1 : (bg : Int) ≤ (q : Int) := by omega
      have hg2 : (q : Int) ≤ (s.size : Int) := by omega
      have hg3 : (0 : Int) ≤ (bg : Int) := by omega
      have hsz := hB.size
      obtain ⟨v', w1, hrun, hown', hgrow, hnil, hat⟩ := run_append_own_at (P := Tryz.prog) (W.drew.alloc (.cells #[.string (s.extract bg q)] 9)) w2.heap.size 46 46 9 i0 (.string ⟨#[]⟩) 1 16 Tryz.underlying46 hi0 hz0 hz1 (by assumption) rfl (by decide) (.slice so ts.length sc) ts.length (svals ts) (World.ownsRow.alloc (w := W.drew) hrow _) ⟨W.heap.size, 0, none⟩ 1 1 [.string (s.extract bg q)] rfl (cell_one_new W.drew _ _) (by simp [Value.oneCell']) (by unfold maxLen; omega) (by omega) (by simp; omega)
      obtain ⟨g', cap', rfl⟩ := ownsRow_succ hown'
      obtain ⟨hv1, hv2, hr2, hk2, hb2⟩ := Boxed.appended (W := W.drew) hv (by decide) hrow hsz (by omega) hown' hgrow
      have hc2 := hv1.cell
      have hf2 := hv1.frozen
      have hb15 : Boxed (w1.setCell ⟨w.heap.size + 1 + 1, 0, none⟩ (.slice (some ⟨g', 0, none⟩) (ts.length + 1) cap')) (w.heap.size + 1 + 1 + 1) 3 (.int .i64 (bg : Int)) := by
        have h1 : Boxed w1 (w.heap.size + 1 + 1 + 1) 3 (.int .i64 (bg : Int)) := (Boxed.alloc (W := W.drew) hb1 _).kept hgrow (Boxed.not_row (W := W.drew) hb1 (by decide) hrow)
        exact (Below.heap_setCell _ _ _ _ (by show w.heap.size + 1 + 1 + 1 ≠ w.heap.size + 1 + 1; omega)).trans h1
      have c15 := hb15.cell
      have f15 := hb15.frozen
      have cP5 : (w1.setCell ⟨w.heap.size + 1 + 1, 0, none⟩ (.slice (some ⟨g', 0, none⟩) (ts.length + 1) cap')).cell? ⟨w.heap.size + 1, 0, none⟩ = some (.string p) := (hb2.cell (p := ⟨w.heap.size + 1, 0, none⟩) (by show w.heap.size + 1 < _; omega)).trans cP
      have FIN : Hid (KeepsOthers W ((w1.setCell ⟨w.heap.size + 1 + 1, 0, none⟩ (.slice (some ⟨g', 0, none⟩) (ts.length + 1) cap')).setCell ⟨w.heap.size + 1 + 1 + 1, 0, none⟩ (.int .i64 ((q : Int) + (p.size : Int)))) ∧ KpB (fun b => b = w.heap.size + 1 + 1 ∨ b = w.heap.size + 1 + 1 + 1) (w.heap.size + 1 + 1) W ((w1.setCell ⟨w.heap.size + 1 + 1, 0, none⟩ (.slice (some ⟨g', 0, none⟩) (ts.length + 1) cap')).setCell ⟨w.heap.size + 1 + 1 + 1, 0, none⟩ (.int .i64 ((q : Int) + (p.size : Int)))) ∧ SplI s p w2 (w.heap.size + 1 + 1) (w.heap.size + 1 + 1 + 1) (pre ++ [⟨q, hq⟩]) ((w1.setCell ⟨w.heap.size + 1 + 1, 0, none⟩ (.slice (some ⟨g', 0, none⟩) (ts.length + 1) cap')).setCell ⟨w.heap.size + 1 + 1 + 1, 0, none⟩ (.int .i64 ((q : Int) + (p.size : Int))))) := by
        have hsn := HSn.out
        unfold splS at hsn
        rw [if_pos hge] at hsn
        refine ⟨(((KeepsOthers.drew W).trans hk2).trans (KeepsOthers.setCell _ _ _)), ?_, ⟨.slice (some ⟨g', 0, none⟩) (ts.length + 1) cap', ?_, ?_, trivial⟩, ?_, ?_⟩
        · obtain ⟨k1, k2, k3⟩ := kpB_app2 (W := W.drew) (B := w.heap.size + 1 + 1) (B1 := w.heap.size + 1 + 1 + 1) (u' := .int .i64 ((q : Int) + (p.size : Int))) hv hgrow hat hv1 (Nat.succ_ne_self _)
          exact ⟨k1, k2, k3⟩
        · exact (Below.heap_setCell _ _ _ _ (by show w.heap.size + 1 + 1 ≠ w.heap.size + 1 + 1 + 1; omega)).trans hv2
        · rw [hsn]
          have h3 := hr2.kept (grownBy_setCell' _ (w.heap.size + 1 + 1 + 1) (.int .i64 ((q : Int) + (p.size : Int)))) (.inr (Ne.symm (hb15.not_row (by decide) hr2)))
          rw [svals_snoc] at h3
          rw [List.length_append]
          exact h3
        · rw [hsn]; exact hb15.set _
        · have hd : Below w2.heap.size W W.drew := (Below.refl _ W).drew
          exact (hB.trans (hd.trans hb2)).setCell (p := ⟨w.heap.size + 1 + 1 + 1, 0, none⟩) (by show _ ≤ w.heap.size + 1 + 1 + 1; omega) _
      clear hv1 hv2 hr2 hk2 hb2 hown' hgrow hnil hat hb15
      have hrun' : (appOp #[46, 46] 46 #[.slice so ts.length sc, .slice (some ⟨W.heap.size, 0, none⟩) 1 1]).run Tryz.prog (W.alloc (.cells #[.string (s.extract bg q)] 9)).drew = .ok (.slice (some ⟨g', 0, none⟩) (ts.length + 1) cap') w1 := hrun
      clear hrun
      have e0 : ∀ o, (W.alloc o).cell? ⟨w.heap.size + 1 + 1, 0, none⟩ = some (.slice so ts.length sc) := fun o => (hv.alloc o).cell
      gi_wp2_with fail
      gi_region_with_o fail
      all_goals gi_wp2_with fail
      all_goals exact FIN.out
    · have hg1 : ¬ (bg : Int) ≤ (q : Int) := by omega
      have FIN : Hid (SplI s p w2 (w.heap.size + 1 + 1) (w.heap.size + 1 + 1 + 1) (pre ++ [⟨q, hq⟩]) W) := by
        have hsn := HSn.out
        unfold splS at hsn
        rw [if_neg hge] at hsn
        refine ⟨⟨_, hv, ?_, trivial⟩, ?_, hB⟩
        · rw [hsn]; exact hrow
        · rw [hsn]; exact hb1
      gi_wp2_with fail
      exact ⟨KeepsOthers.refl _, KpB.refl _ _ _, FIN.out⟩
  case done =>
    rintro D ys W hD hys hI hK
    obtain ⟨⟨v, hv, hrow, _⟩, hb1, hB⟩ := hI
    have hvx : vals' ys = plcs s p := hys
    rw [hvx] at hrow hb1
    have hble : ∀ q ∈ plcs s p, q + p.size ≤ s.size := by rw [← hvx]; exact vals_le ys
    have hbs := spl_end s p.size _ hble
    have hfw := spl_few s p.size (plcs s p)
    have hpl : (plcs s p).length ≤ s.size := by
      unfold plcs
      split
      · simp
      · exact occs_len s.size
    generalize hsp : spl s p.size (plcs s p) = sp at hrow hb1 hbs hfw
    have HSP := Hid.mk hsp
    obtain ⟨ts, bg⟩ := sp
    dsimp only at hrow hb1 hbs hfw
    clear hsp hvx hys hble
    have c0 := hv.cell
    have c1 := hb1.cell
    have cS := (hB.cell (p := ⟨w.heap.size, 0, none⟩) (by show w.heap.size < _; omega)).trans HC2.out.1
    obtain ⟨so, sc, rfl⟩ := own_shape hrow
    have hg1 : (bg : Int) ≤ (s.size : Int) := by omega
    have hg3 : (0 : Int) ≤ (bg : Int) := by omega
    have hsz := hB.size
    obtain ⟨v', w1, hrun, hown', hgrow, hnil, hat⟩ := run_append_own_at (P := Tryz.prog) (W.drew.alloc (.cells #[.string (s.extract bg s.size)] 9)) w2.heap.size 46 46 9 i0 (.string ⟨#[]⟩) 1 16 Tryz.underlying46 hi0 hz0 hz1 (by assumption) rfl (by decide) (.slice so ts.length sc) ts.length (svals ts) (World.ownsRow.alloc (w := W.drew) hrow _) ⟨W.heap.size, 0, none⟩ 1 1 [.string (s.extract bg s.size)] rfl (cell_one_new W.drew _ _) (by simp [Value.oneCell']) (by unfold maxLen; omega) (by omega) (by simp; omega)
    obtain ⟨g', cap', rfl⟩ := ownsRow_succ hown'
    have hdlt := (Array.getElem?_eq_some_iff.1 hK).1
    have hK1 : w1.heap[D]? = some (.deferred (some [])) := by
      refine (hgrow.block D (by simp; omega) ?_).trans ((Below.heap_alloc W.drew _ D hdlt).trans hK)
      rcases hrow.2 with ⟨e, _⟩ | ⟨g, cap, cur, e, _, hg, _⟩
      · simp only [Value.slice.injEq] at e; rw [e.1]; simp [Value.ownBlock]
      · simp only [Value.slice.injEq] at e
        rw [e.1]
        intro e2
        simp [Value.ownBlock] at e2
        subst e2
        rw [hK] at hg; cases hg
    have FIN : Hid ((w1.putObj D (.deferred none)).ownsRow w.heap.size 9 1 (.slice (some ⟨g', 0, none⟩) (ts.length + 1) cap') (ts.length + 1) (svals (ts ++ [s.extract bg s.size])) ∧ Below w.heap.size w (w1.putObj D (.deferred none))) := by
      have hbw := HB2.out.size
      refine ⟨?_, ?_⟩
      · have h3 := ownsRow_putObj hown' (.deferred none) hK1 rfl
        rw [svals_snoc] at h3
        exact ⟨h3.1, h3.2.imp id (fun ⟨g, cap, cur, e, hb, rest⟩ => ⟨g, cap, cur, e, Nat.le_trans hbw hb, rest⟩)⟩
      · have h4 : Below w2.heap.size W w1 := (((Below.refl _ W).drew).alloc hsz _).grown hgrow (by simp; omega) (own_base hrow)
        have h5 := hB.trans h4
        exact (HB2.out.trans (h5.mono hbw)).trans (belowK_b (w := w) (Nat.le_refl _) w1 D _ (.deferred none) (by omega) hK1 rfl rfl)
    have hrun' : (appOp #[46, 46] 46 #[.slice so ts.length sc, .slice (some ⟨W.heap.size, 0, none⟩) 1 1]).run Tryz.prog (W.alloc (.cells #[.string (s.extract bg s.size)] 9)).drew = .ok (.slice (some ⟨g', 0, none⟩) (ts.length + 1) cap') w1 := hrun
    have e0 : ∀ o, (W.alloc o).cell? ⟨w.heap.size + 1 + 1, 0, none⟩ = some (.slice so ts.length sc) := fun o => (hv.alloc o).cell
    clear hrun hown' hgrow hnil hat hK
    gi_wp2_with fail
    refine Code.wpIn_mono NoPanic.imp ?_
    gi_region_with_o fail
    all_goals refine NoPanic.normal ?_
    all_goals gi_wp2_with fail
    all_goals refine ⟨by simp, .inl ⟨_, _, rfl, run_takeDeferred hK1, ?_⟩⟩
    all_goals refine ⟨.slice (some ⟨g', 0, none⟩) (ts.length + 1) cap', ?_, _, rfl, ?_, FIN.out.2⟩
    all_goals first | (rw [HSP.out]; exact FIN.out.1) | simp [results, Tryz.results24, go_sem]
  case stop =>
    rintro D c pre W _ _ h _
    exact h.elim
end Go.Proofs.YtbfjpmbninlbbabGreatDoor
namespace Go.Proofs.YtbfjpmbninlbbabGreatDoor
open Go.RowKit
set_option linter.unusedVariables false

/-- the pieces, each with the part behind it -/
def jp (p : List UInt8) (ts : List ByteArray) : List UInt8 := ts.flatMap fun t => t.data.toList ++ p
theorem jp_snoc (p : List UInt8) (ts : List ByteArray) (t : ByteArray) : jp p (ts ++ [t]) = jp p ts ++ (t.data.toList ++ p) := by simp [jp]
def jl (p : List UInt8) (ts : List ByteArray) : Nat → List UInt8
  | 0 => []
  | k + 1 => jp p (ts.take k) ++ (ts.getD k .empty).data.toList
theorem jl_part (p : List UInt8) (ts : List ByteArray) (k : Nat) (hk : k < ts.length) : jl p ts (k + 1) ++ p = jp p (ts.take (k + 1)) := by
  rw [List.take_succ_eq_append_getElem hk, jp_snoc]
  simp [jl, List.getD, hk]

def NoIn (p : List UInt8) (t : ByteArray) : Prop := ∀ k, ¬ OccAt p t.data.toList k

theorem ext_list (s : ByteArray) (a b : Nat) : (s.extract a b).data.toList = (s.data.toList.take b).drop a := by
  rw [ByteArray.data_extract, Array.toList_extract, List.extract_eq_take_drop, List.take_drop]
  by_cases h : a ≤ b
  · rw [show a + (b - a) = b by omega]
  · rw [List.drop_eq_nil_of_le (by rw [List.length_take]; omega), List.drop_eq_nil_of_le (by rw [List.length_take]; omega)]

theorem occ_within {p t : List UInt8} {a b k : Nat} (hb : b ≤ t.length) (h : OccAt p ((t.take b).drop a) k) (hab : a ≤ b) : OccAt p t (a + k) ∧ a + k + p.length ≤ b := by
  obtain ⟨h1, h2⟩ := h
  rw [List.length_drop, List.length_take] at h1
  refine ⟨⟨by omega, ?_⟩, by omega⟩
  rw [List.drop_drop, List.drop_take, List.take_take] at h2
  rw [show min p.length (b - (a + k)) = p.length by omega] at h2
  exact h2

structure SplOk (s : ByteArray) (p : List UInt8) (n : Nat) (tb : List ByteArray × Nat) : Prop where
  join : jp p tb.1 = s.data.toList.take tb.2
  ends : tb.2 ≤ s.size
  none : ∀ t ∈ tb.1, NoIn p t
  past : ∀ r, OccAt p s.data.toList r → r + p.length ≤ n → r < tb.2

theorem spl_ok (s : ByteArray) (p : List UInt8) (hp : 0 < p.length) (n : Nat) : SplOk s p n (spl s p.length (occs p s.data.toList n)) := by
  induction n with
  | zero =>
    have e : occs p s.data.toList 0 = [] := by simp [occs]
    rw [e]
    exact ⟨by simp [spl, jp], by simp [spl], by simp [spl], fun r _ h => by omega⟩
  | succ n ih =>
    rw [occs_up]
    split
    · rename_i hc
      obtain ⟨hc1, hc2⟩ := hc
      obtain ⟨q, hq⟩ : ∃ q, q = n + 1 - p.length := ⟨_, rfl⟩
      rw [← hq] at hc2 ⊢
      rw [spl_snoc]
      generalize spl s p.length (occs p s.data.toList n) = tb at ih
      obtain ⟨ts, bg⟩ := tb
      obtain ⟨i1, i2, i3, i4⟩ := ih
      dsimp only at i1 i2 i3 i4
      have hc3 := hc2.1
      rw [size_len] at hc3
      unfold splS
      dsimp only
      split
      · rename_i hle
        refine ⟨?_, hc3, ?_, ?_⟩
        · dsimp only
          rw [jp_snoc, i1, ext_list]
          have e1 : s.data.toList.take bg ++ (s.data.toList.take q).drop bg = s.data.toList.take q := by
            have := List.take_append_drop bg (s.data.toList.take q)
            rw [List.take_take, Nat.min_eq_left hle] at this
            exact this
          rw [← List.append_assoc, e1]
          have e2 := hc2.2
          rw [List.take_add, e2]
        · intro t ht
          rcases List.mem_append.1 ht with h | h
          · exact i3 t h
          · obtain rfl : t = s.extract bg q := by simpa using h
            intro k hk
            rw [ext_list] at hk
            obtain ⟨g1, g2⟩ := occ_within (by rw [size_len]; omega) hk hle
            have := i4 _ g1 (by omega)
            omega
        · intro r hr hn
          dsimp only
          by_cases g : r + p.length ≤ n
          · have := i4 r hr g; omega
          · omega
      · rename_i hle
        refine ⟨i1, i2, i3, fun r hr hn => ?_⟩
        dsimp only
        by_cases g : r + p.length ≤ n
        · exact i4 r hr g
        · omega
    · rename_i hc
      rw [List.append_nil]
      obtain ⟨i1, i2, i3, i4⟩ := ih
      refine ⟨i1, i2, i3, fun r hr hn => ?_⟩
      by_cases g : r + p.length ≤ n
      · exact i4 r hr g
      · exact absurd ⟨by omega, by rw [show n + 1 - p.length = r by omega]; exact hr⟩ hc

/-- the texts of a split -/
def splt (s p : ByteArray) : List ByteArray := (spl s p.size (plcs s p)).1 ++ [s.extract (spl s p.size (plcs s p)).2 s.size]

theorem splt_ok (s p : ByteArray) (hp : 0 < p.size) : (∀ t ∈ splt s p, NoIn p.data.toList t) ∧ jl p.data.toList (splt s p) (splt s p).length = s.data.toList := by
  have h := spl_ok s p.data.toList (by rw [size_len]; exact hp) s.size
  rw [← plcs_occs s p hp, size_len] at h
  unfold splt
  generalize spl s p.size (plcs s p) = tb at h
  obtain ⟨ts, bg⟩ := tb
  obtain ⟨i1, i2, i3, i4⟩ := h
  dsimp only at i1 i2 i3 i4 ⊢
  refine ⟨?_, ?_⟩
  · intro t ht
    rcases List.mem_append.1 ht with h | h
    · exact i3 t h
    · obtain rfl : t = s.extract bg s.size := by simpa using h
      intro k hk
      rw [ext_list] at hk
      obtain ⟨g1, g2⟩ := occ_within (by rw [size_len]; omega) hk i2
      rw [size_len] at g2
      have := i4 _ g1 (by rw [size_len]; omega)
      omega
  · rw [List.length_append, List.length_singleton]
    simp only [jl]
    rw [List.take_left', i1] <;> try rfl
    rw [show (ts ++ [s.extract bg s.size]).getD ts.length .empty = s.extract bg s.size by simp [List.getD]]
    rw [ext_list, List.take_of_length_le (l := s.data.toList) (i := s.size) (by rw [size_len]; omega), List.take_append_drop]
end Go.Proofs.YtbfjpmbninlbbabGreatDoor
namespace Go.Proofs.YtbfjpmbninlbbabGreatDoor
open Go.RowKit
set_option linter.unusedVariables false
set_option linter.unusedSimpArgs false

/-- the pieces of a text -/
def pc (s : ByteArray) (k : Nat) : ByteArray := s.extract (off s.data.toList k) (off s.data.toList (k + 1))
def pcl (s : ByteArray) (k : Nat) : List ByteArray := (List.range k).map (pc s)
theorem pcl_up (s : ByteArray) (k : Nat) : pcl s (k + 1) = pcl s k ++ [pc s k] := by unfold pcl; rw [List.range_succ, List.map_append]; rfl
theorem pcl_len (s : ByteArray) (k : Nat) : (pcl s k).length = k := by simp [pcl]
theorem jp_pcl (s : ByteArray) (k : Nat) : jp [] (pcl s k) = s.data.toList.take (off s.data.toList k) := by
  induction k with
  | zero => simp [pcl, jp, off]
  | succ k ih =>
    rw [pcl_up, jp_snoc, ih, List.append_nil, pc, ext_list]
    have := List.take_append_drop (off s.data.toList k) (s.data.toList.take (off s.data.toList (k + 1)))
    rw [List.take_take, Nat.min_eq_left (off_mono _ (Nat.le_succ k))] at this
    exact this
theorem jl_all (ts : List ByteArray) : jl [] ts ts.length = jp [] ts := by
  rcases Nat.eq_zero_or_pos ts.length with h | h
  · rw [List.length_eq_zero_iff.1 h]; rfl
  · obtain ⟨k, hk⟩ : ∃ k, ts.length = k + 1 := ⟨ts.length - 1, by omega⟩
    have := jl_part [] ts k (by omega)
    rw [List.append_nil, ← hk, List.take_length] at this
    exact this
theorem pcl_join (s : ByteArray) : jl [] (pcl s (runes s.data.toList).length) (runes s.data.toList).length = s.data.toList := by
  have h := jl_all (pcl s (runes s.data.toList).length)
  rw [pcl_len] at h
  rw [h, jp_pcl, off_end _ _ (Nat.le_refl _), List.take_length]

/-- while the pieces are cut -/
structure PiSt (B k0 : Nat) (w wr : World) (v : Value) (n : Nat) (s : ByteArray) (pos bg j : Nat) : Prop where
  iter : wr.heap[k0]? = some (.stringIter s pos)
  own : wr.ownsRow B 9 1 v n (svals (pcl s (j - 1)))
  len : n = j - 1
  at_ : pos = off s.data.toList j
  bgAt : bg = off s.data.toList (j - 1)
  few : j ≤ (runes s.data.toList).length
  below : Below B w wr

set_option maxRecDepth 100000 in
set_option maxHeartbeats 3200000 in
theorem w_pieces (s : ByteArray) (w : World) (hs0 : 0 < s.size) (hs : s.size ≤ 1048576) :
    Calls Tryz.prog 47 #[.string s] w fun e w' => ∃ v, e = .returned v ∧ Hid (w'.ownsRow w.heap.size 9 1 v (runes s.data.toList).length (svals (pcl s (runes s.data.toList).length))) ∧ Below w.heap.size w w' := by
  obtain ⟨i0, hi0, hz0, hz1, hz2⟩ := info_parts Tryz.infoS
  have hrl := runes_len_le s.data.toList
  rw [size_len] at hrl
  have HRL := Hid.mk hrl
  clear hrl
  have HS : Hid (PiSt w.heap.size w.heap.size w (w.iter s 0) (.slice none 0 0) 0 s 0 0 0) :=
    ⟨World.iter_heap w s 0, World.ownsRow_nil _ _ _ _, rfl, rfl, rfl, Nat.zero_le _, (Below.refl _ w).alloc (Nat.le_refl _) _⟩
  go_enter Tryz.func47, Tryz.ntmps47
  go_wp2_with fail
  obtain ⟨k0, hk0⟩ : ∃ k0, k0 = w.heap.size := ⟨_, rfl⟩
  have HS' : Hid (PiSt w.heap.size k0 w (w.iter s 0) (.slice none 0 0) 0 s 0 0 0) := by rw [hk0]; exact HS
  rw [← hk0]
  have HWK : Hid (w.heap.size ≤ k0) := by show _ ≤ _; omega
  have HWK2 := Hid.mk hk0
  clear hk0 HS
  go_loopw [3, 4, 5] (fun l b _ wr => ∃ (j pos bg n : Nat) (ao : Option Addr) (cap : Nat), pos ≤ s.size ∧ bg ≤ pos ∧ n ≤ s.size ∧ l = .slice ao n cap ∧ b = .int .i64 (bg : Int) ∧ Hid (PiSt w.heap.size k0 w wr (.slice ao n cap) n s pos bg j)) (fun _ _ _ wr => s.size - wr.iterPos k0)
  case atStart => exact ⟨0, 0, 0, 0, none, 0, Nat.zero_le _, Nat.zero_le _, Nat.zero_le _, rfl, rfl, HS'⟩
  case round =>
    obtain ⟨j, pos, bg, n, ao, cap, hpos, hbg, hn, rfl, rfl, HQ⟩ := hrel
    have hkr := HQ.out.iter
    have HM : Hid (wr.iterPos k0 = pos) := iterPos_of hkr
    have hown := HQ.out.own
    have hwk := HWK.out
    by_cases hp : pos < s.size
    · obtain ⟨q, hq⟩ : ∃ q, q = pos + (decL (s.data.toList.drop pos)).2 := ⟨_, rfl⟩
      obtain ⟨r, hr⟩ : ∃ r, r = (decL (s.data.toList.drop pos)).1 := ⟨_, rfl⟩
      have h1 := decL_pos (s.data.toList.drop pos)
      have h2 := step_le' hp
      have hoq : q = off s.data.toList (j + 1) := by
        have h := off_step s.data.toList j (by rw [← HQ.out.at_]; exact drop_ne' hp)
        rw [h, ← HQ.out.at_, hq]
      have hjN : j < (runes s.data.toList).length := by
        rcases Nat.lt_or_ge j (runes s.data.toList).length with g | g
        · exact g
        · have := off_end j s.data.toList g
          rw [← HQ.out.at_, size_len] at this
          omega
      obtain ⟨W1, hW1⟩ : ∃ W : World, W = wr.iterAt k0 s q := ⟨_, rfl⟩
      have hn1 := nxtAt wr k0 s pos r q hkr hp (by rw [decode_eq s pos hpos]; exact Prod.ext hr.symm (by show _ = q - pos; omega)) (by omega)
      have hk1 := Lib.iterAt_heap wr k0 s pos q hkr
      have ho1 := own_iterAt hown hkr q
      have hB1 := Lib.below_iterAt HQ.out.below hwk s q
      rw [← hW1] at hn1 hk1 ho1 hB1
      rw [← hq] at h2
      clear hW1 hr
      have hsz := hB1.size
      have HK1 := Hid.mk hk1
      have HBW := Hid.mk hB1
      have hq1 : pos + 1 ≤ q := by omega
      have HOQ := Hid.mk hoq
      have HJN := Hid.mk hjN
      clear hk1 hB1 hq h1 hoq hjN hkr
      by_cases hlt : bg < pos
      · have g1 : (bg : Int) < (pos : Int) := by omega
        have g2 : (bg : Int) ≤ (pos : Int) := by omega
        have g3 : (pos : Int) ≤ (s.size : Int) := by omega
        have g4 : (0 : Int) ≤ (bg : Int) := by omega
        have HJ : Hid (∃ i, j = i + 1) := by
          refine ⟨j - 1, ?_⟩
          have a := HQ.out.at_
          have b := HQ.out.bgAt
          rcases Nat.eq_zero_or_pos j with g | g
          · rw [g] at a b
            simp at b
            omega
          · omega
        go_wp2_with (at_builtin; refine wpList_append_own _ rfl (.tmp 14) (.tmp 19) 46 rfl w.heap.size 9 i0 (.string ⟨#[]⟩) 1 16 Tryz.underlying46 hi0 hz0 hz1 hz2 rfl (by decide) _ _ _ rfl (ho1.alloc _) ⟨W1.heap.size, 0, none⟩ 1 1 [.string (s.extract bg pos)] rfl rfl (by intro j u hj; match j, hj with | 0, hj => simp at hj; subst hj; simp [Addr.add]) (by intro u hu; simp at hu; subst hu; rfl) (by unfold maxLen; omega) (by omega) (by simp; omega) ?_)
        intro v4 w4 hown4 hgrow4 hnn
        obtain ⟨so4, c4, hv4⟩ := own_shape hown4
        subst hv4
        have HN : Hid (PiSt w.heap.size k0 w w4 (.slice so4 (n + 1) c4) (n + 1) s q pos (j + 1)) := by
          obtain ⟨i, rfl⟩ := HJ.out
          have b := HQ.out.bgAt
          have c := HQ.out.at_
          have d := HQ.out.len
          refine ⟨iter_kept ho1 HK1.out (grown_after hgrow4), ?_, by omega, HOQ.out, c, HJN.out, below_app ho1 hsz HBW.out hgrow4⟩
          rw [show i + 1 + 1 - 1 = i + 1 by omega, pcl_up, ← svals_snoc, pc]
          rw [show i + 1 - 1 = i by omega] at b hown4
          rw [← b, ← c]
          exact hown4
        have HM4 : Hid (w4.iterPos k0 = q) := iterPos_of HN.out.iter
        have hn4 : n + 1 ≤ s.size := by have := HRL.out; have := HJN.out; have := HN.out.len; omega
        clear hown4 hgrow4 hnn ho1 hown
        go_wp2_with fail
        go_roundw
        case rel => exact ⟨j + 1, q, pos, n + 1, so4, c4, h2, by omega, hn4, rfl, rfl, HN⟩
        case measure => rw [HM4.out, HM.out]; omega
      · have g1 : ¬ (bg : Int) < (pos : Int) := by omega
        have HN : Hid (PiSt w.heap.size k0 w W1 (.slice ao n cap) n s q bg (j + 1)) := by
          have a := HQ.out.at_
          have b := HQ.out.bgAt
          have d := HQ.out.len
          have hj : j = 0 := by
            rcases Nat.eq_zero_or_pos j with g | g
            · exact g
            · obtain ⟨i, rfl⟩ : ∃ i, j = i + 1 := ⟨j - 1, by omega⟩
              have hl := off_lt i s.data.toList (by have := HJN.out; omega)
              have hst := off_step s.data.toList i (by
                intro e
                have := congrArg List.length e
                rw [List.length_drop, List.length_nil] at this
                omega)
              have := decL_pos (s.data.toList.drop (off s.data.toList i))
              rw [show i + 1 - 1 = i by omega] at b
              omega
          subst hj
          exact ⟨HK1.out, ho1, d, HOQ.out, b, HJN.out, HBW.out⟩
        have HM4 : Hid (W1.iterPos k0 = q) := iterPos_of HN.out.iter
        clear ho1 hown
        go_wp2_with fail
        go_roundw
        case rel => exact ⟨j + 1, q, bg, n, ao, cap, h2, by omega, hn, rfl, rfl, HN⟩
        case measure => rw [HM4.out, HM.out]; omega
    · have hne := fun ty => Lib.run_next_end_at (P := Tryz.prog) wr k0 s pos ty hkr hp
      have hsz := HQ.out.below.size
      have g3 : (bg : Int) ≤ (s.size : Int) := by omega
      have g4 : (0 : Int) ≤ (bg : Int) := by omega
      have HJ : Hid (j = (runes s.data.toList).length ∧ 0 < j) := by
        have a := HQ.out.at_
        have f := HQ.out.few
        have g : ¬ j < (runes s.data.toList).length := by
          intro g
          have := off_lt j s.data.toList g
          rw [size_len] at this
          omega
        refine ⟨by omega, ?_⟩
        rcases Nat.eq_zero_or_pos j with h | h
        · rw [h] at a
          simp [off] at a
          omega
        · exact h
      clear hkr
      go_wp2_with (at_builtin; refine wpList_append_own _ rfl (.tmp 22) (.tmp 26) 46 rfl w.heap.size 9 i0 (.string ⟨#[]⟩) 1 16 Tryz.underlying46 hi0 hz0 hz1 hz2 rfl (by decide) _ _ _ rfl (hown.alloc _) ⟨wr.heap.size, 0, none⟩ 1 1 [.string (s.extract bg s.size)] rfl rfl (by intro j u hj; match j, hj with | 0, hj => simp at hj; subst hj; simp [Addr.add]) (by intro u hu; simp at hu; subst hu; rfl) (by unfold maxLen; omega) (by omega) (by simp; omega) ?_)
      intro v4 w4 hown4 hgrow4 hnn
      have HB4 : Hid (Below w.heap.size w w4) := below_app hown hsz HQ.out.below hgrow4
      have HO4 : Hid (w4.ownsRow w.heap.size 9 1 v4 (runes s.data.toList).length (svals (pcl s (runes s.data.toList).length))) := by
        obtain ⟨hj, hj0⟩ := HJ.out
        obtain ⟨i, rfl⟩ : ∃ i, j = i + 1 := ⟨j - 1, by omega⟩
        have b := HQ.out.bgAt
        have d := HQ.out.len
        rw [show i + 1 - 1 = i by omega] at b d hown4
        rw [← hj, pcl_up, ← svals_snoc, pc, off_end (i + 1) _ (by omega), ← b, size_len]
        subst d
        exact hown4
      obtain ⟨so4, c4, hv4⟩ := own_shape hown4
      subst hv4
      clear hown4 hgrow4 hnn hown
      go_wp2_with fail
      go_ret
      exact ⟨_, by rfl, HO4, HB4.out⟩
end Go.Proofs.YtbfjpmbninlbbabGreatDoor
