import Derived.Test.YtfcbeohkhljboaaDoorZSt2
import Derived.Test.YtfcbeohkhljboaaDoorZSt3
import Derived.Test.YtfcbeohkhljboaaDoorZKnown
namespace Go.Proofs.YtfcbeohkhljboaaDoor
open Go.RowKit Go.Shelf
set_option linter.unusedVariables false
set_option linter.unusedSimpArgs false
attribute [local go_sem] Oper.semAt_some

set_option maxRecDepth 100000 in
set_option maxHeartbeats 1000000 in
theorem w_Steps (f t b : ByteArray) (w : World) :
    Calls Tryd.prog 35 #[.string f, .string t, .string b] w fun e w' => e = .returned (.func (.func 65) #[] #[.pointer (some ⟨w.heap.size + 1 + 1, 0, none⟩), .pointer (some ⟨w.heap.size, 0, none⟩), .pointer (some ⟨w.heap.size + 1, 0, none⟩)]) ∧ w' = ((w.alloc (.cells #[.string f] 9)).alloc (.cells #[.string t] 9)).alloc (.cells #[.string b] 9) := by
  go_enter Tryd.func35, Tryd.ntmps35
  go_wp2_with fail
  go_ret
  exact ⟨rfl, rfl⟩

theorem run_seqNil (lb : Array Value) (u : World) : (binOp .eql 39 (.func (.func 65) #[] lb) .nilFunc).run Tryd.prog u = .ok (.bool false) u := by
  kernel_rfl

/-- what the law asks of the document's answer and of the iterator -/
structure WantOk (w : World) (v : Value) (l : List ByteArray) (k mb : Nat) (S Sp : List ByteArray → Prop) : Prop where
  len : l.length = k
  few : k ≤ mb + 1
  strs : Strs w v l
  at_ : ∀ pre x, pre.length ≤ mb → pre.length ≤ k → Sp (pre ++ [x]) → l[pre.length]? = some x
  end_ : ∀ xs, S xs → xs.length ≤ mb → xs.length ≤ k → xs.length = k

theorem WantOk.open {w : World} {so : Option Addr} {sc k mb : Nat} {l : List ByteArray} {S Sp : List ByteArray → Prop} (h : WantOk w (.slice so k sc) l k mb S Sp) (hk : 0 < k) : ∃ g, so = some ⟨g, 0, none⟩ ∧ g < w.heap.size ∧ ∀ i s, l[i]? = some s → w.cell? ⟨g, i, none⟩ = some (.string s) := by
  obtain ⟨ao, cap, hv, hc, hr⟩ := h.strs
  cases hv
  exact hr hk
theorem WantOk.cap {w : World} {so : Option Addr} {sc k mb : Nat} {l : List ByteArray} {S Sp : List ByteArray → Prop} (h : WantOk w (.slice so k sc) l k mb S Sp) : k ≤ sc := by
  obtain ⟨ao, cap, hv, hc, hr⟩ := h.strs
  cases hv
  exact hc
/-- what stands when the loop begins -/
structure LawAt (w w1 w2 : World) (f t b : ByteArray) (so : Option Addr) (k sc : Nat) (l : List ByteArray) (mb : Nat) (S Sp : List ByteArray → Prop) : Prop where
  below : Below w.heap.size w w2
  s1 : w.heap.size + 1 + 1 ≤ w1.heap.size
  s2 : w1.heap.size + 4 ≤ w2.heap.size
  cM : w2.cell? ⟨w.heap.size, 0, none⟩ = some (.int .i64 (mb : Int))
  cR : w2.cell? ⟨w.heap.size + 1, 0, none⟩ = some (.bool false)
  fR : w2.frozen? ⟨w.heap.size + 1, 0, none⟩ = false
  cW : w2.cell? ⟨w1.heap.size, 0, none⟩ = some (.slice so k sc)
  cB : w2.cell? ⟨w1.heap.size + 1 + 1 + 1, 0, none⟩ = some (.string b)
  cF : w2.cell? ⟨w1.heap.size + 1, 0, none⟩ = some (.string f)
  cT : w2.cell? ⟨w1.heap.size + 1 + 1, 0, none⟩ = some (.string t)
  ok : WantOk w2 (.slice so k sc) l k mb S Sp

/-- between two rounds of the law's loop -/
structure StI (w2 : World) (g mb k : Nat) (pre : List ByteArray) (W : World) : Prop where
  c : W.cell? ⟨g, 0, none⟩ = some (.int .i64 (pre.length : Int))
  f : W.frozen? ⟨g, 0, none⟩ = false
  le : pre.length ≤ mb
  lk : pre.length ≤ k
  below : Below w2.heap.size w2 W
def StIx (w2 : World) (g mb k : Nat) (Sp : List ByteArray → Prop) (c : Code) (pre : List ByteArray) (W : World) : Prop :=
  (c = .ret ∧ ¬ Sp pre) ∨ (c = .exit 2 ∧ pre.length = mb + 1 ∧ pre.length ≤ k ∧ W.cell? ⟨g, 0, none⟩ = some (.int .i64 (pre.length : Int)) ∧ Below w2.heap.size w2 W)
theorem StI.own {w2 : World} {g mb k B : Nat} (hB : w2.heap.size ≤ B) : OwnFrom B (StI w2 g mb k) := fun s A A' row h hg hr =>
  ⟨cell_kept h.c hg (fun r e => (hr r e).2), (frozen_kept h.c hg (fun r e => (hr r e).2)).trans h.f, h.le, h.lk, h.below.grown hg h.below.size (fun r e => Nat.le_trans hB (hr r e).1)⟩
theorem StIx.own {w2 : World} {g mb k B : Nat} {Sp : List ByteArray → Prop} (hB : w2.heap.size ≤ B) (c : Code) : OwnFrom B (StIx w2 g mb k Sp c) := fun s A A' row h hg hr => by
  rcases h with h | ⟨h1, h2, h3, h4, h5⟩
  · exact .inl h
  · exact .inr ⟨h1, h2, h3, cell_kept h4 hg (fun r e => (hr r e).2), h5.grown hg h5.size (fun r e => Nat.le_trans hB (hr r e).1)⟩
theorem StI.start (w2 : World) (mb k : Nat) : StI w2 w2.heap.size mb k [] (w2.alloc (.cells #[.int .i64 0] 3)) :=
  ⟨by simp [go_sem], by simp [go_sem], Nat.zero_le _, Nat.zero_le _, (Below.refl _ _).alloc (Nat.le_refl _) _⟩

theorem LawAt.keep {w w1 w2 W : World} {f t b : ByteArray} {so : Option Addr} {k sc : Nat} {l : List ByteArray} {mb : Nat} {S Sp : List ByteArray → Prop} (h : LawAt w w1 w2 f t b so k sc l mb S Sp) (hb : Below w2.heap.size w2 W) : LawAt w w1 W f t b so k sc l mb S Sp := by
  have s1 := h.s1
  have s2 := h.s2
  exact ⟨below_more h.below hb, s1, Nat.le_trans s2 hb.size, (hb.cell (p := ⟨w.heap.size, 0, none⟩) (by show w.heap.size < _; omega)).trans h.cM, (hb.cell (p := ⟨w.heap.size + 1, 0, none⟩) (by show w.heap.size + 1 < _; omega)).trans h.cR, (hb.frozen (p := ⟨w.heap.size + 1, 0, none⟩) (by show w.heap.size + 1 < _; omega)).trans h.fR,
    (hb.cell (p := ⟨w1.heap.size, 0, none⟩) (by show w1.heap.size < _; omega)).trans h.cW, (hb.cell (p := ⟨w1.heap.size + 1 + 1 + 1, 0, none⟩) (by show w1.heap.size + 1 + 1 + 1 < _; omega)).trans h.cB, (hb.cell (p := ⟨w1.heap.size + 1, 0, none⟩) (by show w1.heap.size + 1 < _; omega)).trans h.cF, (hb.cell (p := ⟨w1.heap.size + 1 + 1, 0, none⟩) (by show w1.heap.size + 1 + 1 < _; omega)).trans h.cT,
    ⟨h.ok.len, h.ok.few, h.ok.strs.keep hb, h.ok.at_, h.ok.end_⟩⟩

theorem StI.step {w2 : World} {mb k j : Nat} {pre : List ByteArray} {x : ByteArray} {W : World} {z : Int} (h : StI w2 w2.heap.size mb k pre W) (hj : pre.length = j) (h1 : j + 1 ≤ mb) (h2 : j < k) (hz : z = (j : Int) + 1) : StI w2 w2.heap.size mb k (pre ++ [x]) (W.setCell ⟨w2.heap.size, 0, none⟩ (.int .i64 z)) := by
  have hl : (pre ++ [x]).length = j + 1 := by simp [hj]
  exact ⟨by rw [hl, World.cell?_setCell_same _ _ _ h.c, hz]; rfl, by rw [World.frozen?_setCell]; exact h.f, by omega, by omega, h.below.setCell (p := ⟨w2.heap.size, 0, none⟩) (Nat.le_refl _) _⟩
theorem StIx.step {w2 : World} {mb k j : Nat} {Sp : List ByteArray → Prop} {pre : List ByteArray} {x : ByteArray} {W : World} {z : Int} (h : StI w2 w2.heap.size mb k pre W) (hj : pre.length = j) (h1 : mb < j + 1) (h2 : j < k) (hz : z = (j : Int) + 1) : StIx w2 w2.heap.size mb k Sp (.exit 2) (pre ++ [x]) (W.setCell ⟨w2.heap.size, 0, none⟩ (.int .i64 z)) := by
  have hl : (pre ++ [x]).length = j + 1 := by simp [hj]
  have := h.le
  exact .inr ⟨rfl, by omega, by omega, by rw [hl, World.cell?_setCell_same _ _ _ h.c, hz]; rfl, h.below.setCell (p := ⟨w2.heap.size, 0, none⟩) (Nat.le_refl _) _⟩

theorem rf_block {F : Fence} {n : Nat} {P : Program} {id : Nat} {c : Code} {Q0 : Exit → Act → World → Prop} {a : Act} {w : World} {M : Nat → World → Prop}
    (h : c.wpIn F n P (fun e a' W => (e = .normal ∨ e = .exit id) ∧ ∃ D, a' = { a with defers := { target := .collected D, args := #[] } :: a.defers } ∧ M D W) a w)
    (hM : ∀ D W, M D W → Q0 .normal { a with defers := { target := .collected D, args := #[] } :: a.defers } W) : c.wpIn F n P (Exit.inBlock id Q0) a w := by
  refine wpIn_mono h ?_
  rintro e a' W ⟨rfl | rfl, D, rfl, hm⟩
  · exact hM D W hm
  · simp [Exit.inBlock]; exact hM D W hm

set_option maxRecDepth 100000 in
set_option maxHeartbeats 4000000 in
theorem w_TensSteps_a (f t b : ByteArray) (m0 : Int) (N : Nat) (S Sp : List ByteArray → Prop) (w : World) (htab : Tab w)
    (h1 : m0 < 0)
    (hr : ∀ u, Calls Tryd.prog 34 #[.string f, .string t, .string b, .int .i64 (((200 : Nat) : Int) + 1)] u fun e w' => ∃ so sc k l, e = .returned (.slice so k sc) ∧ Hid (WantOk w' (.slice so k sc) l k 200 S Sp) ∧ Below u.heap.size u w')
    (hseq : ∀ (u : World) (n Bb Bf Bt : Nat), 1 ≤ n → Tab u → u.cell? ⟨Bb, 0, none⟩ = some (.string b) → u.cell? ⟨Bf, 0, none⟩ = some (.string f) → u.cell? ⟨Bt, 0, none⟩ = some (.string t) → Bb < u.heap.size → Bf < u.heap.size → Bt < u.heap.size →
      SeqStopsK Fence.wide n Tryd.prog 65 #[.pointer (some ⟨Bb, 0, none⟩), .pointer (some ⟨Bf, 0, none⟩), .pointer (some ⟨Bt, 0, none⟩)] (fun s : ByteArray => #[.string s]) (Below u.heap.size) S Sp N u) :
    Calls Tryd.prog 7 #[.string f, .string t, .string b, .int .i64 m0] w fun e w' => e = .returned (.bool true) ∧ Below w.heap.size w w' := by
  have HT := Hid.mk htab
  have HR := Hid.mk hr
  have HQ := Hid.mk hseq
  clear htab hr hseq
  refine (callsIn_wide (n := 9)).1 ?_
  refine callsIn_of_wp_marks Tryd.func7 rfl trivial ?_ rfl
  simp only [Tryd.ntmps7, List.size_toArray, List.length_cons, List.length_nil, Nat.reduceAdd, Nat.reduceSub, Array.replicate_succ, Array.replicate_zero, List.push_toArray, List.append_toArray, List.nil_append, List.cons_append]
  gi_wp2_with fail
  refine ⟨trivial, (callsIn_wide.2 (HR.out _)).mono ?_⟩
  rintro e w1 ⟨so, sc, k, l, rfl, HW, hb1⟩
  have hs1 := hb1.size
  simp at hs1
  have HB1 : Hid (Below w.heap.size w w1) := by first | exact below_more (below2 w _ _) hb1 | exact below_more ((below2 w _ _).setCell (p := ⟨w.heap.size, 0, none⟩) (Nat.le_refl _) _) hb1
  have M1 : w1.cell? ⟨w.heap.size, 0, none⟩ = some (.int .i64 ((200 : Nat) : Int)) := below_cells hb1 (by simp <;> omega) (by simp [go_sem])
  have R1 : w1.cell? ⟨w.heap.size + 1, 0, none⟩ = some (.bool false) := below_cells hb1 (by simp <;> omega) (by simp [go_sem])
  have F1 : w1.frozen? ⟨w.heap.size + 1, 0, none⟩ = false := (hb1.frozen (p := ⟨w.heap.size + 1, 0, none⟩) (by simp <;> omega)).trans (by simp [go_sem])
  have HC1 := Hid.mk (And.intro M1 (And.intro R1 F1))
  clear hb1 M1 R1 F1
  gi_wp2_with fail
  refine ⟨trivial, (callsIn_wide.2 (w_Steps f t b _)).mono ?_⟩
  rintro e w2 ⟨rfl, hw2⟩
  have hz2 : w2.heap.size = w1.heap.size + 4 := by rw [hw2]; simp
  have hb2 : Below w1.heap.size w1 w2 := by rw [hw2]; exact ((((Below.refl w1.heap.size w1).alloc (Nat.le_refl _) _).alloc (by simp) _).alloc (by simp <;> omega) _).alloc (by simp <;> omega) _
  have HB2 := Hid.mk (below_more HB1.out hb2)
  have HS : Hid (LawAt w w1 w2 f t b so k sc l 200 S Sp) := by
    refine ⟨HB2.out, hs1, Nat.le_of_eq hz2.symm, (hb2.cell (p := ⟨w.heap.size, 0, none⟩) (by simp <;> omega)).trans HC1.out.1, (hb2.cell (p := ⟨w.heap.size + 1, 0, none⟩) (by simp <;> omega)).trans HC1.out.2.1, (hb2.frozen (p := ⟨w.heap.size + 1, 0, none⟩) (by simp <;> omega)).trans HC1.out.2.2, ?_, ?_, ?_, ?_, ⟨HW.out.len, HW.out.few, HW.out.strs.keep hb2, HW.out.at_, HW.out.end_⟩⟩
    all_goals (rw [hw2]; simp [go_sem])
  clear hw2 hz2 hb2 HW HB1 HB2 HC1
  have hnil := fun lb u => run_seqNil lb u
  have d1 := HS.out.cM
  have d2 := HS.out.cW
  gi_wp2_with fail
  refine wpIn_loop_rounds 3 ?_
  rw [roundsIn_succ]
  gi_wp2_with fail
  clear hnil d1 d2
  have HT2 := Hid.mk (HT.out.keep HS.out.below)
  have hz2 := HS.out.s2
  refine rf_block (M := fun D W => w2.heap.size < D ∧ W.heap[D]? = some (.deferred (some [])) ∧ Below w2.heap.size w2 W ∧ W.cell? ⟨w2.heap.size, 0, none⟩ = some (.int .i64 (k : Int))) ?_ ?_
  · refine wpIn_rangeFunc_ownF rfl (by omega) (gf := 65) (lb := #[.pointer (some ⟨w1.heap.size + 1 + 1 + 1, 0, none⟩), .pointer (some ⟨w1.heap.size + 1, 0, none⟩), .pointer (some ⟨w1.heap.size + 1 + 1, 0, none⟩)]) rfl trivial (enters_of Tryd.func65 (by kernel_rfl) rfl)
      (HQ.out w2 (9 - 1) _ _ _ (by omega) HT2.out HS.out.cB HS.out.cF HS.out.cT (by omega) (by omega) (by omega)) belowK_t (belowK_b (by simp)) ((Below.refl _ _).alloc (Nat.le_refl _) _) (fun _ => rfl)
      (StI w2 w2.heap.size 200 k) (StIx w2 w2.heap.size 200 k Sp) (StI.own (by simp)) (StIx.own (by simp)) (StI.start _ _ _) ?a1 ?assign ?body ?done ?stop
    case assign =>
      intro l x W K hK
      gi_wp2_with fail
      exact hK
    case body =>
      rintro q pre x W hI hlt
      have HI := Hid.mk hI
      have cA := hI.c
      have fA := hI.f
      have HSW := Hid.mk (HS.out.keep hI.below)
      have cW := HSW.out.cW
      have cM := HSW.out.cM
      have cR := HSW.out.cR
      have fR := HSW.out.fR
      have hj1 := hI.le
      generalize hj : pre.length = j at cA hj1
      have HJ := Hid.mk hj
      have HAT : Hid (∀ hk : pre.length ≤ k, Sp (pre ++ [x]) → l[j]? = some x) := fun hk hp => by have := HSW.out.ok.at_ pre x HI.out.le hk hp; rwa [hj] at this
      clear hI hlt hj
      by_cases hjk : j < k
      · have hjk2 : ¬ ((k : Int) ≤ (j : Int)) := by omega
        obtain ⟨g, hso, hg, hcell⟩ := HSW.out.ok.open (by omega)
        obtain ⟨s, hs⟩ : ∃ s, l[j]? = some s := ⟨_, List.getElem?_eq_getElem (by rw [HSW.out.ok.len]; exact hjk)⟩
        have cS := hcell j s hs
        have HSS := Hid.mk hs
        have hsc := HSW.out.ok.cap
        subst hso
        clear hcell hs
        gi_wp2_with fail
        · rename_i hne
          exact ⟨KeepsOthers.setCell _ _ _, .inl ⟨rfl, fun hp => by
            have h1 := HAT.out HI.out.lk hp
            rw [HSS.out] at h1
            cases h1
            simp at hne⟩⟩
        · rename_i hmj
          exact ⟨KeepsOthers.setCell _ _ _, StIx.step HI.out HJ.out (by omega) hjk rfl⟩
        · rename_i hmj
          exact ⟨KeepsOthers.setCell _ _ _, (Below.refl _ W).setCell (p := ⟨w2.heap.size, 0, none⟩) (Nat.le_refl _) _, HI.out.step HJ.out (by omega) hjk rfl⟩
      · have hjk2 : (k : Int) ≤ (j : Int) := by omega
        gi_wp2_with fail
        exact ⟨KeepsOthers.setCell _ _ _, .inl ⟨rfl, fun hp => by
          have h1 := HAT.out HI.out.lk hp
          rw [List.getElem?_eq_none (by rw [HSW.out.ok.len]; omega)] at h1
          cases h1⟩⟩
    case done =>
      rintro D xs W hD hS hI hK
      have he := HS.out.ok.end_ xs hS hI.le hI.lk
      exact ⟨.inl rfl, D, rfl, by simp at hD; omega, hK, hI.below, by have := hI.c; rwa [he] at this⟩
    case stop =>
      rintro D c pre W hD hSp hI hK
      rcases hI with ⟨rfl, hn⟩ | ⟨rfl, h1, h2, h3, h4⟩
      · exact absurd hSp hn
      · have he : pre.length = k := by have := HS.out.ok.few; omega
        refine wpIn_exit ⟨.inr rfl, D, rfl, by simp at hD; omega, hK, h4, by rwa [he] at h3⟩
  rintro D w5 ⟨hD, hKD, hbW, cA⟩
  have HS3 := Hid.mk (HS.out.keep hbW)
  have HKD := Hid.mk hKD
  have HD2 := Hid.mk hD
  have HLD : Hid (D < w5.heap.size) := (Array.getElem?_eq_some_iff.1 hKD).1
  have e1 := HS3.out.cW
  clear hKD hbW hD
  gi_wp2_with fail
  rw [roundsIn_succ]
  clear cA e1
  gi_wp2_with fail
  have HT3 := Hid.mk (HT.out.keep HS3.out.below)
  have hz3 := HS3.out.s2
  refine rf_block (M := fun D W => w5.heap.size < D ∧ W.heap[D]? = some (.deferred (some [])) ∧ Below w5.heap.size w5 W ∧ W.cell? ⟨w5.heap.size, 0, none⟩ = some (.int .i64 (k : Int))) ?_ ?_
  · refine wpIn_rangeFunc_ownF rfl (by omega) (gf := 65) (lb := #[.pointer (some ⟨w1.heap.size + 1 + 1 + 1, 0, none⟩), .pointer (some ⟨w1.heap.size + 1, 0, none⟩), .pointer (some ⟨w1.heap.size + 1 + 1, 0, none⟩)]) rfl trivial (enters_of Tryd.func65 (by kernel_rfl) rfl)
      (HQ.out w5 (9 - 1) _ _ _ (by omega) HT3.out HS3.out.cB HS3.out.cF HS3.out.cT (by omega) (by omega) (by omega)) belowK_t (belowK_b (by simp)) ((Below.refl _ _).alloc (Nat.le_refl _) _) (fun _ => rfl)
      (StI w5 w5.heap.size 200 k) (StIx w5 w5.heap.size 200 k Sp) (StI.own (by simp)) (StIx.own (by simp)) (StI.start _ _ _) ?a3 ?assign3 ?body3 ?done3 ?stop3
    case assign3 =>
      intro l x W K hK
      gi_wp2_with fail
      exact hK
    case body3 =>
      rintro q pre x W hI hlt
      have HI := Hid.mk hI
      have cA := hI.c
      have fA := hI.f
      have HSW := Hid.mk (HS3.out.keep hI.below)
      have cW := HSW.out.cW
      have cM := HSW.out.cM
      have cR := HSW.out.cR
      have fR := HSW.out.fR
      have hj1 := hI.le
      generalize hj : pre.length = j at cA hj1
      have HJ := Hid.mk hj
      have HAT : Hid (∀ hk : pre.length ≤ k, Sp (pre ++ [x]) → l[j]? = some x) := fun hk hp => by have := HSW.out.ok.at_ pre x HI.out.le hk hp; rwa [hj] at this
      clear hI hlt hj
      by_cases hjk : j < k
      · have hjk2 : ¬ ((k : Int) ≤ (j : Int)) := by omega
        obtain ⟨g, hso, hg, hcell⟩ := HSW.out.ok.open (by omega)
        obtain ⟨s, hs⟩ : ∃ s, l[j]? = some s := ⟨_, List.getElem?_eq_getElem (by rw [HSW.out.ok.len]; exact hjk)⟩
        have cS := hcell j s hs
        have HSS := Hid.mk hs
        have hsc := HSW.out.ok.cap
        subst hso
        clear hcell hs
        gi_wp2_with fail
        · rename_i hne
          exact ⟨KeepsOthers.setCell _ _ _, .inl ⟨rfl, fun hp => by
            have h1 := HAT.out HI.out.lk hp
            rw [HSS.out] at h1
            cases h1
            simp at hne⟩⟩
        · rename_i hmj
          exact ⟨KeepsOthers.setCell _ _ _, StIx.step HI.out HJ.out (by omega) hjk rfl⟩
        · rename_i hmj
          exact ⟨KeepsOthers.setCell _ _ _, (Below.refl _ W).setCell (p := ⟨w5.heap.size, 0, none⟩) (Nat.le_refl _) _, HI.out.step HJ.out (by omega) hjk rfl⟩
      · have hjk2 : (k : Int) ≤ (j : Int) := by omega
        gi_wp2_with fail
        exact ⟨KeepsOthers.setCell _ _ _, .inl ⟨rfl, fun hp => by
          have h1 := HAT.out HI.out.lk hp
          rw [List.getElem?_eq_none (by rw [HSW.out.ok.len]; omega)] at h1
          cases h1⟩⟩
    case done3 =>
      rintro D xs W hD hS hI hK
      have he := HS3.out.ok.end_ xs hS hI.le hI.lk
      exact ⟨.inl rfl, D, rfl, by simp at hD; omega, hK, hI.below, by have := hI.c; rwa [he] at this⟩
    case stop3 =>
      rintro D c pre W hD hSp hI hK
      rcases hI with ⟨rfl, hn⟩ | ⟨rfl, h1, h2, h3, h4⟩
      · exact absurd hSp hn
      · have he : pre.length = k := by have := HS3.out.ok.few; omega
        refine wpIn_exit ⟨.inr rfl, D, rfl, by simp at hD; omega, hK, h4, by rwa [he] at h3⟩
  rintro E w6 ⟨hE, hKE, hbV, cA⟩
  have HS4 := Hid.mk (HS3.out.keep hbV)
  have HKE := Hid.mk hKE
  have HKD2 : Hid (w6.heap[D]? = some (.deferred (some []))) := (hbV.block D HLD.out).trans HKD.out
  have HNE : Hid (D ≠ E) := by have := HLD.out; show D ≠ E; omega
  have HLT : Hid (w5.heap.size < E ∧ w1.heap.size ≤ w5.heap.size ∧ w2.heap.size < D) := ⟨hE, by have := HS3.out.s2; omega, HD2.out⟩
  have e1 := HS4.out.cW
  clear hKE hbV hE
  gi_wp2_with fail
  rw [roundsIn_succ]
  clear cA e1
  gi_wp2_with fail
  refine ⟨trivial, (callsIn_wide.2 (w_Known _ (HT.out.keep HS4.out.below))).mono ?_⟩
  rintro e w7 ⟨rfl, hb7⟩
  have HS5 := Hid.mk (HS4.out.keep hb7)
  have cR := HS5.out.cR
  have fR := HS5.out.fR
  have HE7 : Hid (w7.heap[E]? = some (.deferred (some []))) := (hb7.block E (Array.getElem?_eq_some_iff.1 HKE.out).1).trans HKE.out
  have HD7 : Hid (w7.heap[D]? = some (.deferred (some []))) := (hb7.block D (Array.getElem?_eq_some_iff.1 HKD2.out).1).trans HKD2.out
  clear hb7
  gi_wp2_with fail
  have hl := HLT.out
  have hl1 := HS.out.s1
  have hl2 := HS.out.s2
  have hl3 := HLD.out
  have hE' : (w7.setCell ⟨w.heap.size + 1, 0, none⟩ (.bool true)).heap[E]? = some (.deferred (some [])) := (Below.heap_setCell _ _ _ _ (by show E ≠ w.heap.size + 1; omega)).trans HE7.out
  have hD' : ((w7.setCell ⟨w.heap.size + 1, 0, none⟩ (.bool true)).putObj E (.deferred none)).heap[D]? = some (.deferred (some [])) := (World.putObj_heap_other (by omega)).trans ((Below.heap_setCell _ _ _ _ (by show D ≠ w.heap.size + 1; omega)).trans HD7.out)
  refine ⟨by simp, .inl ⟨_, _, rfl, run_takeDeferred hE', by simp, .inl ⟨_, _, rfl, run_takeDeferred hD', ?_⟩⟩⟩
  have hc := cell_kept (World.cell?_setCell_same w7 ⟨w.heap.size + 1, 0, none⟩ (.bool true) cR) (grownBy_putObj' _ E (.deferred none)) (fun r e => by cases e; exact ⟨_, hE', rfl⟩)
  have hc2 := cell_kept hc (grownBy_putObj' _ D (.deferred none)) (fun r e => by cases e; exact ⟨_, hD', rfl⟩)
  refine ⟨.bool true, ?_, rfl, ((HS5.out.below.setCell (p := ⟨w.heap.size + 1, 0, none⟩) (by show _ ≤ w.heap.size + 1; omega) _).trans (belowK_b (w := w) (Nat.le_refl _) _ E _ _ (by omega) hE' rfl rfl)).trans (belowK_b (w := w) (Nat.le_refl _) _ D _ _ (by omega) hD' rfl rfl)⟩
  simp [results, Tryd.results7, go_sem, hc2]

set_option maxRecDepth 100000 in
set_option maxHeartbeats 4000000 in
theorem w_TensSteps_b (f t b : ByteArray) (m0 : Int) (N : Nat) (S Sp : List ByteArray → Prop) (w : World) (htab : Tab w)
    (h1 : ¬ m0 < 0) (h2 : 200 < m0)
    (hr : ∀ u, Calls Tryd.prog 34 #[.string f, .string t, .string b, .int .i64 (((200 : Nat) : Int) + 1)] u fun e w' => ∃ so sc k l, e = .returned (.slice so k sc) ∧ Hid (WantOk w' (.slice so k sc) l k 200 S Sp) ∧ Below u.heap.size u w')
    (hseq : ∀ (u : World) (n Bb Bf Bt : Nat), 1 ≤ n → Tab u → u.cell? ⟨Bb, 0, none⟩ = some (.string b) → u.cell? ⟨Bf, 0, none⟩ = some (.string f) → u.cell? ⟨Bt, 0, none⟩ = some (.string t) → Bb < u.heap.size → Bf < u.heap.size → Bt < u.heap.size →
      SeqStopsK Fence.wide n Tryd.prog 65 #[.pointer (some ⟨Bb, 0, none⟩), .pointer (some ⟨Bf, 0, none⟩), .pointer (some ⟨Bt, 0, none⟩)] (fun s : ByteArray => #[.string s]) (Below u.heap.size) S Sp N u) :
    Calls Tryd.prog 7 #[.string f, .string t, .string b, .int .i64 m0] w fun e w' => e = .returned (.bool true) ∧ Below w.heap.size w w' := by
  have HT := Hid.mk htab
  have HR := Hid.mk hr
  have HQ := Hid.mk hseq
  clear htab hr hseq
  refine (callsIn_wide (n := 9)).1 ?_
  refine callsIn_of_wp_marks Tryd.func7 rfl trivial ?_ rfl
  simp only [Tryd.ntmps7, List.size_toArray, List.length_cons, List.length_nil, Nat.reduceAdd, Nat.reduceSub, Array.replicate_succ, Array.replicate_zero, List.push_toArray, List.append_toArray, List.nil_append, List.cons_append]
  gi_wp2_with fail
  refine ⟨trivial, (callsIn_wide.2 (HR.out _)).mono ?_⟩
  rintro e w1 ⟨so, sc, k, l, rfl, HW, hb1⟩
  have hs1 := hb1.size
  simp at hs1
  have HB1 : Hid (Below w.heap.size w w1) := by first | exact below_more (below2 w _ _) hb1 | exact below_more ((below2 w _ _).setCell (p := ⟨w.heap.size, 0, none⟩) (Nat.le_refl _) _) hb1
  have M1 : w1.cell? ⟨w.heap.size, 0, none⟩ = some (.int .i64 ((200 : Nat) : Int)) := below_cells hb1 (by simp <;> omega) (by simp [go_sem])
  have R1 : w1.cell? ⟨w.heap.size + 1, 0, none⟩ = some (.bool false) := below_cells hb1 (by simp <;> omega) (by simp [go_sem])
  have F1 : w1.frozen? ⟨w.heap.size + 1, 0, none⟩ = false := (hb1.frozen (p := ⟨w.heap.size + 1, 0, none⟩) (by simp <;> omega)).trans (by simp [go_sem])
  have HC1 := Hid.mk (And.intro M1 (And.intro R1 F1))
  clear hb1 M1 R1 F1
  gi_wp2_with fail
  refine ⟨trivial, (callsIn_wide.2 (w_Steps f t b _)).mono ?_⟩
  rintro e w2 ⟨rfl, hw2⟩
  have hz2 : w2.heap.size = w1.heap.size + 4 := by rw [hw2]; simp
  have hb2 : Below w1.heap.size w1 w2 := by rw [hw2]; exact ((((Below.refl w1.heap.size w1).alloc (Nat.le_refl _) _).alloc (by simp) _).alloc (by simp <;> omega) _).alloc (by simp <;> omega) _
  have HB2 := Hid.mk (below_more HB1.out hb2)
  have HS : Hid (LawAt w w1 w2 f t b so k sc l 200 S Sp) := by
    refine ⟨HB2.out, hs1, Nat.le_of_eq hz2.symm, (hb2.cell (p := ⟨w.heap.size, 0, none⟩) (by simp <;> omega)).trans HC1.out.1, (hb2.cell (p := ⟨w.heap.size + 1, 0, none⟩) (by simp <;> omega)).trans HC1.out.2.1, (hb2.frozen (p := ⟨w.heap.size + 1, 0, none⟩) (by simp <;> omega)).trans HC1.out.2.2, ?_, ?_, ?_, ?_, ⟨HW.out.len, HW.out.few, HW.out.strs.keep hb2, HW.out.at_, HW.out.end_⟩⟩
    all_goals (rw [hw2]; simp [go_sem])
  clear hw2 hz2 hb2 HW HB1 HB2 HC1
  have hnil := fun lb u => run_seqNil lb u
  have d1 := HS.out.cM
  have d2 := HS.out.cW
  gi_wp2_with fail
  refine wpIn_loop_rounds 3 ?_
  rw [roundsIn_succ]
  gi_wp2_with fail
  clear hnil d1 d2
  have HT2 := Hid.mk (HT.out.keep HS.out.below)
  have hz2 := HS.out.s2
  refine rf_block (M := fun D W => w2.heap.size < D ∧ W.heap[D]? = some (.deferred (some [])) ∧ Below w2.heap.size w2 W ∧ W.cell? ⟨w2.heap.size, 0, none⟩ = some (.int .i64 (k : Int))) ?_ ?_
  · refine wpIn_rangeFunc_ownF rfl (by omega) (gf := 65) (lb := #[.pointer (some ⟨w1.heap.size + 1 + 1 + 1, 0, none⟩), .pointer (some ⟨w1.heap.size + 1, 0, none⟩), .pointer (some ⟨w1.heap.size + 1 + 1, 0, none⟩)]) rfl trivial (enters_of Tryd.func65 (by kernel_rfl) rfl)
      (HQ.out w2 (9 - 1) _ _ _ (by omega) HT2.out HS.out.cB HS.out.cF HS.out.cT (by omega) (by omega) (by omega)) belowK_t (belowK_b (by simp)) ((Below.refl _ _).alloc (Nat.le_refl _) _) (fun _ => rfl)
      (StI w2 w2.heap.size 200 k) (StIx w2 w2.heap.size 200 k Sp) (StI.own (by simp)) (StIx.own (by simp)) (StI.start _ _ _) ?a1 ?assign ?body ?done ?stop
    case assign =>
      intro l x W K hK
      gi_wp2_with fail
      exact hK
    case body =>
      rintro q pre x W hI hlt
      have HI := Hid.mk hI
      have cA := hI.c
      have fA := hI.f
      have HSW := Hid.mk (HS.out.keep hI.below)
      have cW := HSW.out.cW
      have cM := HSW.out.cM
      have cR := HSW.out.cR
      have fR := HSW.out.fR
      have hj1 := hI.le
      generalize hj : pre.length = j at cA hj1
      have HJ := Hid.mk hj
      have HAT : Hid (∀ hk : pre.length ≤ k, Sp (pre ++ [x]) → l[j]? = some x) := fun hk hp => by have := HSW.out.ok.at_ pre x HI.out.le hk hp; rwa [hj] at this
      clear hI hlt hj
      by_cases hjk : j < k
      · have hjk2 : ¬ ((k : Int) ≤ (j : Int)) := by omega
        obtain ⟨g, hso, hg, hcell⟩ := HSW.out.ok.open (by omega)
        obtain ⟨s, hs⟩ : ∃ s, l[j]? = some s := ⟨_, List.getElem?_eq_getElem (by rw [HSW.out.ok.len]; exact hjk)⟩
        have cS := hcell j s hs
        have HSS := Hid.mk hs
        have hsc := HSW.out.ok.cap
        subst hso
        clear hcell hs
        gi_wp2_with fail
        · rename_i hne
          exact ⟨KeepsOthers.setCell _ _ _, .inl ⟨rfl, fun hp => by
            have h1 := HAT.out HI.out.lk hp
            rw [HSS.out] at h1
            cases h1
            simp at hne⟩⟩
        · rename_i hmj
          exact ⟨KeepsOthers.setCell _ _ _, StIx.step HI.out HJ.out (by omega) hjk rfl⟩
        · rename_i hmj
          exact ⟨KeepsOthers.setCell _ _ _, (Below.refl _ W).setCell (p := ⟨w2.heap.size, 0, none⟩) (Nat.le_refl _) _, HI.out.step HJ.out (by omega) hjk rfl⟩
      · have hjk2 : (k : Int) ≤ (j : Int) := by omega
        gi_wp2_with fail
        exact ⟨KeepsOthers.setCell _ _ _, .inl ⟨rfl, fun hp => by
          have h1 := HAT.out HI.out.lk hp
          rw [List.getElem?_eq_none (by rw [HSW.out.ok.len]; omega)] at h1
          cases h1⟩⟩
    case done =>
      rintro D xs W hD hS hI hK
      have he := HS.out.ok.end_ xs hS hI.le hI.lk
      exact ⟨.inl rfl, D, rfl, by simp at hD; omega, hK, hI.below, by have := hI.c; rwa [he] at this⟩
    case stop =>
      rintro D c pre W hD hSp hI hK
      rcases hI with ⟨rfl, hn⟩ | ⟨rfl, h1, h2, h3, h4⟩
      · exact absurd hSp hn
      · have he : pre.length = k := by have := HS.out.ok.few; omega
        refine wpIn_exit ⟨.inr rfl, D, rfl, by simp at hD; omega, hK, h4, by rwa [he] at h3⟩
  rintro D w5 ⟨hD, hKD, hbW, cA⟩
  have HS3 := Hid.mk (HS.out.keep hbW)
  have HKD := Hid.mk hKD
  have HD2 := Hid.mk hD
  have HLD : Hid (D < w5.heap.size) := (Array.getElem?_eq_some_iff.1 hKD).1
  have e1 := HS3.out.cW
  clear hKD hbW hD
  gi_wp2_with fail
  rw [roundsIn_succ]
  clear cA e1
  gi_wp2_with fail
  have HT3 := Hid.mk (HT.out.keep HS3.out.below)
  have hz3 := HS3.out.s2
  refine rf_block (M := fun D W => w5.heap.size < D ∧ W.heap[D]? = some (.deferred (some [])) ∧ Below w5.heap.size w5 W ∧ W.cell? ⟨w5.heap.size, 0, none⟩ = some (.int .i64 (k : Int))) ?_ ?_
  · refine wpIn_rangeFunc_ownF rfl (by omega) (gf := 65) (lb := #[.pointer (some ⟨w1.heap.size + 1 + 1 + 1, 0, none⟩), .pointer (some ⟨w1.heap.size + 1, 0, none⟩), .pointer (some ⟨w1.heap.size + 1 + 1, 0, none⟩)]) rfl trivial (enters_of Tryd.func65 (by kernel_rfl) rfl)
      (HQ.out w5 (9 - 1) _ _ _ (by omega) HT3.out HS3.out.cB HS3.out.cF HS3.out.cT (by omega) (by omega) (by omega)) belowK_t (belowK_b (by simp)) ((Below.refl _ _).alloc (Nat.le_refl _) _) (fun _ => rfl)
      (StI w5 w5.heap.size 200 k) (StIx w5 w5.heap.size 200 k Sp) (StI.own (by simp)) (StIx.own (by simp)) (StI.start _ _ _) ?a3 ?assign3 ?body3 ?done3 ?stop3
    case assign3 =>
      intro l x W K hK
      gi_wp2_with fail
      exact hK
    case body3 =>
      rintro q pre x W hI hlt
      have HI := Hid.mk hI
      have cA := hI.c
      have fA := hI.f
      have HSW := Hid.mk (HS3.out.keep hI.below)
      have cW := HSW.out.cW
      have cM := HSW.out.cM
      have cR := HSW.out.cR
      have fR := HSW.out.fR
      have hj1 := hI.le
      generalize hj : pre.length = j at cA hj1
      have HJ := Hid.mk hj
      have HAT : Hid (∀ hk : pre.length ≤ k, Sp (pre ++ [x]) → l[j]? = some x) := fun hk hp => by have := HSW.out.ok.at_ pre x HI.out.le hk hp; rwa [hj] at this
      clear hI hlt hj
      by_cases hjk : j < k
      · have hjk2 : ¬ ((k : Int) ≤ (j : Int)) := by omega
        obtain ⟨g, hso, hg, hcell⟩ := HSW.out.ok.open (by omega)
        obtain ⟨s, hs⟩ : ∃ s, l[j]? = some s := ⟨_, List.getElem?_eq_getElem (by rw [HSW.out.ok.len]; exact hjk)⟩
        have cS := hcell j s hs
        have HSS := Hid.mk hs
        have hsc := HSW.out.ok.cap
        subst hso
        clear hcell hs
        gi_wp2_with fail
        · rename_i hne
          exact ⟨KeepsOthers.setCell _ _ _, .inl ⟨rfl, fun hp => by
            have h1 := HAT.out HI.out.lk hp
            rw [HSS.out] at h1
            cases h1
            simp at hne⟩⟩
        · rename_i hmj
          exact ⟨KeepsOthers.setCell _ _ _, StIx.step HI.out HJ.out (by omega) hjk rfl⟩
        · rename_i hmj
          exact ⟨KeepsOthers.setCell _ _ _, (Below.refl _ W).setCell (p := ⟨w5.heap.size, 0, none⟩) (Nat.le_refl _) _, HI.out.step HJ.out (by omega) hjk rfl⟩
      · have hjk2 : (k : Int) ≤ (j : Int) := by omega
        gi_wp2_with fail
        exact ⟨KeepsOthers.setCell _ _ _, .inl ⟨rfl, fun hp => by
          have h1 := HAT.out HI.out.lk hp
          rw [List.getElem?_eq_none (by rw [HSW.out.ok.len]; omega)] at h1
          cases h1⟩⟩
    case done3 =>
      rintro D xs W hD hS hI hK
      have he := HS3.out.ok.end_ xs hS hI.le hI.lk
      exact ⟨.inl rfl, D, rfl, by simp at hD; omega, hK, hI.below, by have := hI.c; rwa [he] at this⟩
    case stop3 =>
      rintro D c pre W hD hSp hI hK
      rcases hI with ⟨rfl, hn⟩ | ⟨rfl, h1, h2, h3, h4⟩
      · exact absurd hSp hn
      · have he : pre.length = k := by have := HS3.out.ok.few; omega
        refine wpIn_exit ⟨.inr rfl, D, rfl, by simp at hD; omega, hK, h4, by rwa [he] at h3⟩
  rintro E w6 ⟨hE, hKE, hbV, cA⟩
  have HS4 := Hid.mk (HS3.out.keep hbV)
  have HKE := Hid.mk hKE
  have HKD2 : Hid (w6.heap[D]? = some (.deferred (some []))) := (hbV.block D HLD.out).trans HKD.out
  have HNE : Hid (D ≠ E) := by have := HLD.out; show D ≠ E; omega
  have HLT : Hid (w5.heap.size < E ∧ w1.heap.size ≤ w5.heap.size ∧ w2.heap.size < D) := ⟨hE, by have := HS3.out.s2; omega, HD2.out⟩
  have e1 := HS4.out.cW
  clear hKE hbV hE
  gi_wp2_with fail
  rw [roundsIn_succ]
  clear cA e1
  gi_wp2_with fail
  refine ⟨trivial, (callsIn_wide.2 (w_Known _ (HT.out.keep HS4.out.below))).mono ?_⟩
  rintro e w7 ⟨rfl, hb7⟩
  have HS5 := Hid.mk (HS4.out.keep hb7)
  have cR := HS5.out.cR
  have fR := HS5.out.fR
  have HE7 : Hid (w7.heap[E]? = some (.deferred (some []))) := (hb7.block E (Array.getElem?_eq_some_iff.1 HKE.out).1).trans HKE.out
  have HD7 : Hid (w7.heap[D]? = some (.deferred (some []))) := (hb7.block D (Array.getElem?_eq_some_iff.1 HKD2.out).1).trans HKD2.out
  clear hb7
  gi_wp2_with fail
  have hl := HLT.out
  have hl1 := HS.out.s1
  have hl2 := HS.out.s2
  have hl3 := HLD.out
  have hE' : (w7.setCell ⟨w.heap.size + 1, 0, none⟩ (.bool true)).heap[E]? = some (.deferred (some [])) := (Below.heap_setCell _ _ _ _ (by show E ≠ w.heap.size + 1; omega)).trans HE7.out
  have hD' : ((w7.setCell ⟨w.heap.size + 1, 0, none⟩ (.bool true)).putObj E (.deferred none)).heap[D]? = some (.deferred (some [])) := (World.putObj_heap_other (by omega)).trans ((Below.heap_setCell _ _ _ _ (by show D ≠ w.heap.size + 1; omega)).trans HD7.out)
  refine ⟨by simp, .inl ⟨_, _, rfl, run_takeDeferred hE', by simp, .inl ⟨_, _, rfl, run_takeDeferred hD', ?_⟩⟩⟩
  have hc := cell_kept (World.cell?_setCell_same w7 ⟨w.heap.size + 1, 0, none⟩ (.bool true) cR) (grownBy_putObj' _ E (.deferred none)) (fun r e => by cases e; exact ⟨_, hE', rfl⟩)
  have hc2 := cell_kept hc (grownBy_putObj' _ D (.deferred none)) (fun r e => by cases e; exact ⟨_, hD', rfl⟩)
  refine ⟨.bool true, ?_, rfl, ((HS5.out.below.setCell (p := ⟨w.heap.size + 1, 0, none⟩) (by show _ ≤ w.heap.size + 1; omega) _).trans (belowK_b (w := w) (Nat.le_refl _) _ E _ _ (by omega) hE' rfl rfl)).trans (belowK_b (w := w) (Nat.le_refl _) _ D _ _ (by omega) hD' rfl rfl)⟩
  simp [results, Tryd.results7, go_sem, hc2]

set_option maxRecDepth 100000 in
set_option maxHeartbeats 4000000 in
theorem w_TensSteps_c (f t b : ByteArray) (m0 : Int) (mb N : Nat) (S Sp : List ByteArray → Prop) (hm : mb ≤ 200) (w : World) (htab : Tab w)
    (h1 : ¬ m0 < 0) (h2 : ¬ 200 < m0) (h3 : m0 = (mb : Int))
    (hr : ∀ u, Calls Tryd.prog 34 #[.string f, .string t, .string b, .int .i64 ((mb : Int) + 1)] u fun e w' => ∃ so sc k l, e = .returned (.slice so k sc) ∧ Hid (WantOk w' (.slice so k sc) l k mb S Sp) ∧ Below u.heap.size u w')
    (hseq : ∀ (u : World) (n Bb Bf Bt : Nat), 1 ≤ n → Tab u → u.cell? ⟨Bb, 0, none⟩ = some (.string b) → u.cell? ⟨Bf, 0, none⟩ = some (.string f) → u.cell? ⟨Bt, 0, none⟩ = some (.string t) → Bb < u.heap.size → Bf < u.heap.size → Bt < u.heap.size →
      SeqStopsK Fence.wide n Tryd.prog 65 #[.pointer (some ⟨Bb, 0, none⟩), .pointer (some ⟨Bf, 0, none⟩), .pointer (some ⟨Bt, 0, none⟩)] (fun s : ByteArray => #[.string s]) (Below u.heap.size) S Sp N u) :
    Calls Tryd.prog 7 #[.string f, .string t, .string b, .int .i64 m0] w fun e w' => e = .returned (.bool true) ∧ Below w.heap.size w w' := by
  subst h3
  have HT := Hid.mk htab
  have HR := Hid.mk hr
  have HQ := Hid.mk hseq
  clear htab hr hseq
  refine (callsIn_wide (n := 9)).1 ?_
  refine callsIn_of_wp_marks Tryd.func7 rfl trivial ?_ rfl
  simp only [Tryd.ntmps7, List.size_toArray, List.length_cons, List.length_nil, Nat.reduceAdd, Nat.reduceSub, Array.replicate_succ, Array.replicate_zero, List.push_toArray, List.append_toArray, List.nil_append, List.cons_append]
  gi_wp2_with fail
  refine ⟨trivial, (callsIn_wide.2 (HR.out _)).mono ?_⟩
  rintro e w1 ⟨so, sc, k, l, rfl, HW, hb1⟩
  have hs1 := hb1.size
  simp at hs1
  have HB1 : Hid (Below w.heap.size w w1) := by first | exact below_more (below2 w _ _) hb1 | exact below_more ((below2 w _ _).setCell (p := ⟨w.heap.size, 0, none⟩) (Nat.le_refl _) _) hb1
  have M1 : w1.cell? ⟨w.heap.size, 0, none⟩ = some (.int .i64 (mb : Int)) := below_cells hb1 (by simp <;> omega) (by simp [go_sem])
  have R1 : w1.cell? ⟨w.heap.size + 1, 0, none⟩ = some (.bool false) := below_cells hb1 (by simp <;> omega) (by simp [go_sem])
  have F1 : w1.frozen? ⟨w.heap.size + 1, 0, none⟩ = false := (hb1.frozen (p := ⟨w.heap.size + 1, 0, none⟩) (by simp <;> omega)).trans (by simp [go_sem])
  have HC1 := Hid.mk (And.intro M1 (And.intro R1 F1))
  clear hb1 M1 R1 F1
  gi_wp2_with fail
  refine ⟨trivial, (callsIn_wide.2 (w_Steps f t b _)).mono ?_⟩
  rintro e w2 ⟨rfl, hw2⟩
  have hz2 : w2.heap.size = w1.heap.size + 4 := by rw [hw2]; simp
  have hb2 : Below w1.heap.size w1 w2 := by rw [hw2]; exact ((((Below.refl w1.heap.size w1).alloc (Nat.le_refl _) _).alloc (by simp) _).alloc (by simp <;> omega) _).alloc (by simp <;> omega) _
  have HB2 := Hid.mk (below_more HB1.out hb2)
  have HS : Hid (LawAt w w1 w2 f t b so k sc l mb S Sp) := by
    refine ⟨HB2.out, hs1, Nat.le_of_eq hz2.symm, (hb2.cell (p := ⟨w.heap.size, 0, none⟩) (by simp <;> omega)).trans HC1.out.1, (hb2.cell (p := ⟨w.heap.size + 1, 0, none⟩) (by simp <;> omega)).trans HC1.out.2.1, (hb2.frozen (p := ⟨w.heap.size + 1, 0, none⟩) (by simp <;> omega)).trans HC1.out.2.2, ?_, ?_, ?_, ?_, ⟨HW.out.len, HW.out.few, HW.out.strs.keep hb2, HW.out.at_, HW.out.end_⟩⟩
    all_goals (rw [hw2]; simp [go_sem])
  clear hw2 hz2 hb2 HW HB1 HB2 HC1
  have hnil := fun lb u => run_seqNil lb u
  have d1 := HS.out.cM
  have d2 := HS.out.cW
  gi_wp2_with fail
  refine wpIn_loop_rounds 3 ?_
  rw [roundsIn_succ]
  gi_wp2_with fail
  clear hnil d1 d2
  have HT2 := Hid.mk (HT.out.keep HS.out.below)
  have hz2 := HS.out.s2
  refine rf_block (M := fun D W => w2.heap.size < D ∧ W.heap[D]? = some (.deferred (some [])) ∧ Below w2.heap.size w2 W ∧ W.cell? ⟨w2.heap.size, 0, none⟩ = some (.int .i64 (k : Int))) ?_ ?_
  · refine wpIn_rangeFunc_ownF rfl (by omega) (gf := 65) (lb := #[.pointer (some ⟨w1.heap.size + 1 + 1 + 1, 0, none⟩), .pointer (some ⟨w1.heap.size + 1, 0, none⟩), .pointer (some ⟨w1.heap.size + 1 + 1, 0, none⟩)]) rfl trivial (enters_of Tryd.func65 (by kernel_rfl) rfl)
      (HQ.out w2 (9 - 1) _ _ _ (by omega) HT2.out HS.out.cB HS.out.cF HS.out.cT (by omega) (by omega) (by omega)) belowK_t (belowK_b (by simp)) ((Below.refl _ _).alloc (Nat.le_refl _) _) (fun _ => rfl)
      (StI w2 w2.heap.size mb k) (StIx w2 w2.heap.size mb k Sp) (StI.own (by simp)) (StIx.own (by simp)) (StI.start _ _ _) ?a1 ?assign ?body ?done ?stop
    case assign =>
      intro l x W K hK
      gi_wp2_with fail
      exact hK
    case body =>
      rintro q pre x W hI hlt
      have HI := Hid.mk hI
      have cA := hI.c
      have fA := hI.f
      have HSW := Hid.mk (HS.out.keep hI.below)
      have cW := HSW.out.cW
      have cM := HSW.out.cM
      have cR := HSW.out.cR
      have fR := HSW.out.fR
      have hj1 := hI.le
      generalize hj : pre.length = j at cA hj1
      have HJ := Hid.mk hj
      have HAT : Hid (∀ hk : pre.length ≤ k, Sp (pre ++ [x]) → l[j]? = some x) := fun hk hp => by have := HSW.out.ok.at_ pre x HI.out.le hk hp; rwa [hj] at this
      clear hI hlt hj
      by_cases hjk : j < k
      · have hjk2 : ¬ ((k : Int) ≤ (j : Int)) := by omega
        obtain ⟨g, hso, hg, hcell⟩ := HSW.out.ok.open (by omega)
        obtain ⟨s, hs⟩ : ∃ s, l[j]? = some s := ⟨_, List.getElem?_eq_getElem (by rw [HSW.out.ok.len]; exact hjk)⟩
        have cS := hcell j s hs
        have HSS := Hid.mk hs
        have hsc := HSW.out.ok.cap
        subst hso
        clear hcell hs
        gi_wp2_with fail
        · rename_i hne
          exact ⟨KeepsOthers.setCell _ _ _, .inl ⟨rfl, fun hp => by
            have h1 := HAT.out HI.out.lk hp
            rw [HSS.out] at h1
            cases h1
            simp at hne⟩⟩
        · rename_i hmj
          exact ⟨KeepsOthers.setCell _ _ _, StIx.step HI.out HJ.out (by omega) hjk rfl⟩
        · rename_i hmj
          exact ⟨KeepsOthers.setCell _ _ _, (Below.refl _ W).setCell (p := ⟨w2.heap.size, 0, none⟩) (Nat.le_refl _) _, HI.out.step HJ.out (by omega) hjk rfl⟩
      · have hjk2 : (k : Int) ≤ (j : Int) := by omega
        gi_wp2_with fail
        exact ⟨KeepsOthers.setCell _ _ _, .inl ⟨rfl, fun hp => by
          have h1 := HAT.out HI.out.lk hp
          rw [List.getElem?_eq_none (by rw [HSW.out.ok.len]; omega)] at h1
          cases h1⟩⟩
    case done =>
      rintro D xs W hD hS hI hK
      have he := HS.out.ok.end_ xs hS hI.le hI.lk
      exact ⟨.inl rfl, D, rfl, by simp at hD; omega, hK, hI.below, by have := hI.c; rwa [he] at this⟩
    case stop =>
      rintro D c pre W hD hSp hI hK
      rcases hI with ⟨rfl, hn⟩ | ⟨rfl, h1, h2, h3, h4⟩
      · exact absurd hSp hn
      · have he : pre.length = k := by have := HS.out.ok.few; omega
        refine wpIn_exit ⟨.inr rfl, D, rfl, by simp at hD; omega, hK, h4, by rwa [he] at h3⟩
  rintro D w5 ⟨hD, hKD, hbW, cA⟩
  have HS3 := Hid.mk (HS.out.keep hbW)
  have HKD := Hid.mk hKD
  have HD2 := Hid.mk hD
  have HLD : Hid (D < w5.heap.size) := (Array.getElem?_eq_some_iff.1 hKD).1
  have e1 := HS3.out.cW
  clear hKD hbW hD
  gi_wp2_with fail
  rw [roundsIn_succ]
  clear cA e1
  gi_wp2_with fail
  have HT3 := Hid.mk (HT.out.keep HS3.out.below)
  have hz3 := HS3.out.s2
  refine rf_block (M := fun D W => w5.heap.size < D ∧ W.heap[D]? = some (.deferred (some [])) ∧ Below w5.heap.size w5 W ∧ W.cell? ⟨w5.heap.size, 0, none⟩ = some (.int .i64 (k : Int))) ?_ ?_
  · refine wpIn_rangeFunc_ownF rfl (by omega) (gf := 65) (lb := #[.pointer (some ⟨w1.heap.size + 1 + 1 + 1, 0, none⟩), .pointer (some ⟨w1.heap.size + 1, 0, none⟩), .pointer (some ⟨w1.heap.size + 1 + 1, 0, none⟩)]) rfl trivial (enters_of Tryd.func65 (by kernel_rfl) rfl)
      (HQ.out w5 (9 - 1) _ _ _ (by omega) HT3.out HS3.out.cB HS3.out.cF HS3.out.cT (by omega) (by omega) (by omega)) belowK_t (belowK_b (by simp)) ((Below.refl _ _).alloc (Nat.le_refl _) _) (fun _ => rfl)
      (StI w5 w5.heap.size mb k) (StIx w5 w5.heap.size mb k Sp) (StI.own (by simp)) (StIx.own (by simp)) (StI.start _ _ _) ?a3 ?assign3 ?body3 ?done3 ?stop3
    case assign3 =>
      intro l x W K hK
      gi_wp2_with fail
      exact hK
    case body3 =>
      rintro q pre x W hI hlt
      have HI := Hid.mk hI
      have cA := hI.c
      have fA := hI.f
      have HSW := Hid.mk (HS3.out.keep hI.below)
      have cW := HSW.out.cW
      have cM := HSW.out.cM
      have cR := HSW.out.cR
      have fR := HSW.out.fR
      have hj1 := hI.le
      generalize hj : pre.length = j at cA hj1
      have HJ := Hid.mk hj
      have HAT : Hid (∀ hk : pre.length ≤ k, Sp (pre ++ [x]) → l[j]? = some x) := fun hk hp => by have := HSW.out.ok.at_ pre x HI.out.le hk hp; rwa [hj] at this
      clear hI hlt hj
      by_cases hjk : j < k
      · have hjk2 : ¬ ((k : Int) ≤ (j : Int)) := by omega
        obtain ⟨g, hso, hg, hcell⟩ := HSW.out.ok.open (by omega)
        obtain ⟨s, hs⟩ : ∃ s, l[j]? = some s := ⟨_, List.getElem?_eq_getElem (by rw [HSW.out.ok.len]; exact hjk)⟩
        have cS := hcell j s hs
        have HSS := Hid.mk hs
        have hsc := HSW.out.ok.cap
        subst hso
        clear hcell hs
        gi_wp2_with fail
        · rename_i hne
          exact ⟨KeepsOthers.setCell _ _ _, .inl ⟨rfl, fun hp => by
            have h1 := HAT.out HI.out.lk hp
            rw [HSS.out] at h1
            cases h1
            simp at hne⟩⟩
        · rename_i hmj
          exact ⟨KeepsOthers.setCell _ _ _, StIx.step HI.out HJ.out (by omega) hjk rfl⟩
        · rename_i hmj
          exact ⟨KeepsOthers.setCell _ _ _, (Below.refl _ W).setCell (p := ⟨w5.heap.size, 0, none⟩) (Nat.le_refl _) _, HI.out.step HJ.out (by omega) hjk rfl⟩
      · have hjk2 : (k : Int) ≤ (j : Int) := by omega
        gi_wp2_with fail
        exact ⟨KeepsOthers.setCell _ _ _, .inl ⟨rfl, fun hp => by
          have h1 := HAT.out HI.out.lk hp
          rw [List.getElem?_eq_none (by rw [HSW.out.ok.len]; omega)] at h1
          cases h1⟩⟩
    case done3 =>
      rintro D xs W hD hS hI hK
      have he := HS3.out.ok.end_ xs hS hI.le hI.lk
      exact ⟨.inl rfl, D, rfl, by simp at hD; omega, hK, hI.below, by have := hI.c; rwa [he] at this⟩
    case stop3 =>
      rintro D c pre W hD hSp hI hK
      rcases hI with ⟨rfl, hn⟩ | ⟨rfl, h1, h2, h3, h4⟩
      · exact absurd hSp hn
      · have he : pre.length = k := by have := HS3.out.ok.few; omega
        refine wpIn_exit ⟨.inr rfl, D, rfl, by simp at hD; omega, hK, h4, by rwa [he] at h3⟩
  rintro E w6 ⟨hE, hKE, hbV, cA⟩
  have HS4 := Hid.mk (HS3.out.keep hbV)
  have HKE := Hid.mk hKE
  have HKD2 : Hid (w6.heap[D]? = some (.deferred (some []))) := (hbV.block D HLD.out).trans HKD.out
  have HNE : Hid (D ≠ E) := by have := HLD.out; show D ≠ E; omega
  have HLT : Hid (w5.heap.size < E ∧ w1.heap.size ≤ w5.heap.size ∧ w2.heap.size < D) := ⟨hE, by have := HS3.out.s2; omega, HD2.out⟩
  have e1 := HS4.out.cW
  clear hKE hbV hE
  gi_wp2_with fail
  rw [roundsIn_succ]
  clear cA e1
  gi_wp2_with fail
  refine ⟨trivial, (callsIn_wide.2 (w_Known _ (HT.out.keep HS4.out.below))).mono ?_⟩
  rintro e w7 ⟨rfl, hb7⟩
  have HS5 := Hid.mk (HS4.out.keep hb7)
  have cR := HS5.out.cR
  have fR := HS5.out.fR
  have HE7 : Hid (w7.heap[E]? = some (.deferred (some []))) := (hb7.block E (Array.getElem?_eq_some_iff.1 HKE.out).1).trans HKE.out
  have HD7 : Hid (w7.heap[D]? = some (.deferred (some []))) := (hb7.block D (Array.getElem?_eq_some_iff.1 HKD2.out).1).trans HKD2.out
  clear hb7
  gi_wp2_with fail
  have hl := HLT.out
  have hl1 := HS.out.s1
  have hl2 := HS.out.s2
  have hl3 := HLD.out
  have hE' : (w7.setCell ⟨w.heap.size + 1, 0, none⟩ (.bool true)).heap[E]? = some (.deferred (some [])) := (Below.heap_setCell _ _ _ _ (by show E ≠ w.heap.size + 1; omega)).trans HE7.out
  have hD' : ((w7.setCell ⟨w.heap.size + 1, 0, none⟩ (.bool true)).putObj E (.deferred none)).heap[D]? = some (.deferred (some [])) := (World.putObj_heap_other (by omega)).trans ((Below.heap_setCell _ _ _ _ (by show D ≠ w.heap.size + 1; omega)).trans HD7.out)
  refine ⟨by simp, .inl ⟨_, _, rfl, run_takeDeferred hE', by simp, .inl ⟨_, _, rfl, run_takeDeferred hD', ?_⟩⟩⟩
  have hc := cell_kept (World.cell?_setCell_same w7 ⟨w.heap.size + 1, 0, none⟩ (.bool true) cR) (grownBy_putObj' _ E (.deferred none)) (fun r e => by cases e; exact ⟨_, hE', rfl⟩)
  have hc2 := cell_kept hc (grownBy_putObj' _ D (.deferred none)) (fun r e => by cases e; exact ⟨_, hD', rfl⟩)
  refine ⟨.bool true, ?_, rfl, ((HS5.out.below.setCell (p := ⟨w.heap.size + 1, 0, none⟩) (by show _ ≤ w.heap.size + 1; omega) _).trans (belowK_b (w := w) (Nat.le_refl _) _ E _ _ (by omega) hE' rfl rfl)).trans (belowK_b (w := w) (Nat.le_refl _) _ D _ _ (by omega) hD' rfl rfl)⟩
  simp [results, Tryd.results7, go_sem, hc2]
end Go.Proofs.YtfcbeohkhljboaaDoor
