import Derived.Test.YtapjfocjeligiaaGreatDoorM20
import Derived.Lib.QuietBelow
import Derived.BigQuiet
import Derived.Test.YtapjfocjeligiaaGreatDoorM10
namespace Go.Proofs.YtapjfocjeligiaaGreatDoor
open Go.RowKit Go.Shelf Go.Sort
set_option linter.unusedVariables false
set_option linter.unusedSimpArgs false
attribute [local go_sem] Oper.semAt_some

theorem inT_shape {W : World} {h : Nat} {T : TT} {v : Value} (hI : InT W h T v) : ∃ (a b c d : Bool) (e : Option Addr × Nat × Nat) (f : Bool) (g i j : Option Addr × Nat × Nat), v = .agg #[.bool a, .bool b, .bool c, .bool d, .slice e.1 e.2.1 e.2.2, .bool f, .slice g.1 g.2.1 g.2.2, .slice i.1 i.2.1 i.2.2, .slice j.1 j.2.1 j.2.2] := by
  cases h with
  | zero => exact hI.elim
  | succ h =>
    obtain ⟨no, nc, xo, xc, ao, ac, oo, oc, e, _⟩ := hI
    exact ⟨_, _, _, _, (no, _, nc), _, (xo, _, xc), (ao, _, ac), (oo, _, oc), e⟩
/-- an alternative, as it lies -/
structure OB.At (h : Nat) (o : OB) (wr : World) (b off : Nat) (ko : Option Addr) (kc : Nat) (fo : Option Addr) (NF fc : Nat) (mo : Option Addr) (mc : Nat) : Prop where
  lt : b < wr.heap.size
  ck : wr.cell? ⟨b, off, none⟩ = some (.slice ko o.names.length kc)
  cf : wr.cell? ⟨b, off + 1, none⟩ = some (.slice fo NF fc)
  cm : wr.cell? ⟨b, off + 2, none⟩ = some (.slice mo o.must.length mc)
  cap : NF ≤ fc ∧ NF ≤ 140737488355328
  rest : ∃ c0 c1 c2 c3 c4 c5 c6 c7 c8 : Value, C9 wr b (off + 3) c0 c1 c2 c3 c4 c5 c6 c7 c8 ∧ InT wr h o.rest (.agg #[c0, c1, c2, c3, c4, c5, c6, c7, c8])
  field : ∀ fs, o.fields = fs → ∀ j, (hj : j < fs.length) → ∃ b2 off2, fo = some ⟨b2, off2, none⟩ ∧ b2 < wr.heap.size ∧ ∃ d0 d1 d2 d3 d4 d5 d6 d7 d8 : Value, C9 wr b2 (off2 + j * 9) d0 d1 d2 d3 d4 d5 d6 d7 d8 ∧ InT wr h fs[j] (.agg #[d0, d1, d2, d3, d4, d5, d6, d7, d8])
theorem OB.At.keep {h : Nat} {o : OB} {wr u : World} {b off : Nat} {ko : Option Addr} {kc : Nat} {fo : Option Addr} {NF fc : Nat} {mo : Option Addr} {mc : Nat} (x : OB.At h o wr b off ko kc fo NF fc mo mc) (hb : Below wr.heap.size wr u) : OB.At h o u b off ko kc fo NF fc mo mc := by
  refine ⟨Nat.lt_of_lt_of_le x.lt hb.size, (hb.cell (p := ⟨_, _, _⟩) x.lt).trans x.ck, (hb.cell (p := ⟨_, _, _⟩) x.lt).trans x.cf, (hb.cell (p := ⟨_, _, _⟩) x.lt).trans x.cm, x.cap, ?_, fun fs hfs j hj => ?_⟩
  · obtain ⟨c0, c1, c2, c3, c4, c5, c6, c7, c8, h1, h2⟩ := x.rest
    exact ⟨c0, c1, c2, c3, c4, c5, c6, c7, c8, h1.keep hb x.lt, h2.keep hb⟩
  · obtain ⟨b2, off2, e, hl, d0, d1, d2, d3, d4, d5, d6, d7, d8, h1, h2⟩ := x.field fs hfs j hj
    exact ⟨b2, off2, e, Nat.lt_of_lt_of_le hl hb.size, d0, d1, d2, d3, d4, d5, d6, d7, d8, h1.keep hb hl, h2.keep hb⟩
end Go.Proofs.YtapjfocjeligiaaGreatDoor
namespace Go.Proofs.YtapjfocjeligiaaGreatDoor
open Go.RowKit Go.Shelf Go.Sort
set_option linter.unusedVariables false
set_option linter.unusedSimpArgs false
attribute [local go_sem] Oper.semAt_some
end Go.Proofs.YtapjfocjeligiaaGreatDoor
namespace Go.Proofs.YtapjfocjeligiaaGreatDoor
open Go.RowKit Go.Shelf Go.Sort
set_option linter.unusedVariables false
set_option linter.unusedSimpArgs false
attribute [local go_sem] Oper.semAt_some

/-- how deep types lie within one another -/
def hgN : Nat → TT → Nat
  | 0, _ => 0
  | h + 1, T => T.objs.foldl (fun n o => o.fields.foldl (fun n t => max n (hgN h t + 1)) (max n (hgN h o.rest + 1))) (T.arrs.foldl (fun n a => max n (hgN h a.item + 1)) 0)
theorem foldl_le {α : Type} {g : Nat → α → Nat} {B : Nat} : ∀ (l : List α), (∀ a ∈ l, ∀ n, n ≤ B → g n a ≤ B) → ∀ n, n ≤ B → l.foldl g n ≤ B
  | [], _, n, hn => hn
  | a :: r, h, n, hn => foldl_le r (fun b hb => h b (List.mem_cons_of_mem _ hb)) (g n a) (h a (List.mem_cons_self ..) n hn)
theorem hg_le : ∀ (h : Nat) (T : TT), hgN h T ≤ tpN h T
  | 0, T => Nat.le_refl _
  | h + 1, T => by
    have hA : ∀ a ∈ T.arrs, tpN h a.item ≤ sumL (T.arrs.map fun a => tpN h a.item) := fun a ha => sumL_mem (List.mem_map.2 ⟨a, ha, rfl⟩)
    have hO : ∀ o ∈ T.objs, o.names.length + o.must.length + tpN h o.rest + sumL (o.fields.map (tpN h)) ≤ sumL (T.objs.map fun o => o.names.length + o.must.length + tpN h o.rest + sumL (o.fields.map (tpN h))) := fun o ho => sumL_mem (List.mem_map.2 ⟨o, ho, rfl⟩)
    show T.objs.foldl _ _ ≤ 1 + T.texts.length + T.nums.length + sumL (T.arrs.map fun a => tpN h a.item) + sumL (T.objs.map fun o => o.names.length + o.must.length + tpN h o.rest + sumL (o.fields.map (tpN h)))
    refine foldl_le T.objs (fun o ho n hn => ?_) _ (foldl_le T.arrs (fun a ha n hn => ?_) 0 (Nat.zero_le _))
    · have h1 := hO o ho
      have h2 := hg_le h o.rest
      refine foldl_le o.fields (fun t ht n hn => ?_) _ (by omega)
      have h3 := hg_le h t
      have h4 : tpN h t ≤ sumL (o.fields.map (tpN h)) := sumL_mem (List.mem_map.2 ⟨t, ht, rfl⟩)
      omega
    · have h1 := hA a ha
      have h2 := hg_le h a.item
      show max n (hgN h a.item + 1) ≤ _
      omega
end Go.Proofs.YtapjfocjeligiaaGreatDoor
namespace Go.Proofs.YtapjfocjeligiaaGreatDoor
open Go.RowKit Go.Shelf Go.Sort
set_option linter.unusedVariables false
set_option linter.unusedSimpArgs false
attribute [local go_sem] Oper.semAt_some

/-- nothing but perhaps All is set -/
def bareT (b c d f : Bool) (en gn inn jn : Nat) : Bool := !(b || c || d || f) && (en == 0 && (gn == 0 && (inn == 0 && jn == 0)))
def TT.bare (T : TT) : Bool := bareT T.nul T.fls T.tru T.any T.nums.length T.texts.length T.arrs.length T.objs.length

set_option maxRecDepth 100000 in
set_option maxHeartbeats 3200000 in
theorem bare_v (a b c d f : Bool) (eo go io jo : Option Addr) (en ec gn gc inn ic jn jc : Nat) (w : World) (h1 : en ≤ 140737488355328) (h2 : gn ≤ 140737488355328) (h3 : inn ≤ 140737488355328) (h4 : jn ≤ 140737488355328) :
    Calls Tryz.prog 26 #[.agg #[.bool a, .bool b, .bool c, .bool d, .slice eo en ec, .bool f, .slice go gn gc, .slice io inn ic, .slice jo jn jc]] w fun e w' => e = .returned (.bool (bareT b c d f en gn inn jn)) ∧ Below w.heap.size w w' := by
  have HX := Hid.mk (tbx_new w (.bool a) (.bool b) (.bool c) (.bool d) (.slice eo en ec) (.bool f) (.slice go gn gc) (.slice io inn ic) (.slice jo jn jc))
  obtain ⟨W0, hW0⟩ : ∃ W0, w.alloc (.cells #[.bool a, .bool b, .bool c, .bool d, .slice eo en ec, .bool f, .slice go gn gc, .slice io inn ic, .slice jo jn jc] 29) = W0 := ⟨_, rfl⟩
  rw [hW0] at HX
  obtain ⟨_, c0, c1, c2, c3, c4, c5, c6, c7, c8, _⟩ := HX.out
  obtain ⟨r, hr⟩ : ∃ r, bareT b c d f en gn inn jn = r := ⟨_, rfl⟩
  have HR := Hid.mk hr
  rw [hr]
  cases b
  · cases c
    · cases d
      · cases f
        · by_cases k1 : en = 0
          · by_cases k2 : gn = 0
            · by_cases k3 : inn = 0
              · by_cases k4 : jn = 0
                · subst k1 k2 k3 k4
                  go_enter Tryz.func26, Tryz.ntmps26
                  go_wp2_with fail
                  go_ret
                  exact ⟨by rw [← HR.out]; rfl, HX.out.below⟩
                · subst k1 k2 k3
                  have hr2 : r = false := by rw [← HR.out]; simp [bareT, k4]
                  have k4' : ¬ (jn : Int) = 0 := by omega
                  clear k4
                  go_enter Tryz.func26, Tryz.ntmps26
                  go_wp2_with fail
                  go_ret
                  exact ⟨by rw [hr2]; first | rfl | (simp; omega) | simp_all, HX.out.below⟩
              · subst k1 k2
                have hr2 : r = false := by rw [← HR.out]; simp [bareT, k3]
                have k3' : ¬ (inn : Int) = 0 := by omega
                clear k3
                go_enter Tryz.func26, Tryz.ntmps26
                go_wp2_with fail
                go_ret
                exact ⟨by rw [hr2]; first | rfl | (simp; omega) | simp_all, HX.out.below⟩
            · subst k1
              have hr2 : r = false := by rw [← HR.out]; simp [bareT, k2]
              have k2' : ¬ (gn : Int) = 0 := by omega
              clear k2
              go_enter Tryz.func26, Tryz.ntmps26
              go_wp2_with fail
              go_ret
              exact ⟨by rw [hr2]; first | rfl | (simp; omega) | simp_all, HX.out.below⟩
          · have hr2 : r = false := by rw [← HR.out]; simp [bareT, k1]
            have k1' : ¬ (en : Int) = 0 := by omega
            clear k1
            go_enter Tryz.func26, Tryz.ntmps26
            go_wp2_with fail
            go_ret
            exact ⟨by rw [hr2]; first | rfl | (simp; omega) | simp_all, HX.out.below⟩
        · go_enter Tryz.func26, Tryz.ntmps26
          go_wp2_with fail
          go_ret
          exact ⟨by rw [← HR.out]; rfl, HX.out.below⟩
      · go_enter Tryz.func26, Tryz.ntmps26
        go_wp2_with fail
        go_ret
        exact ⟨by rw [← HR.out]; rfl, HX.out.below⟩
    · go_enter Tryz.func26, Tryz.ntmps26
      go_wp2_with fail
      go_ret
      exact ⟨by rw [← HR.out]; rfl, HX.out.below⟩
  · go_enter Tryz.func26, Tryz.ntmps26
    go_wp2_with fail
    go_ret
    exact ⟨by rw [← HR.out]; rfl, HX.out.below⟩
theorem w_rBare (h : Nat) (T : TT) (v : Value) (w : World) (hI : InT w h T v) : Calls Tryz.prog 26 #[v] w fun e w' => e = .returned (.bool T.bare) ∧ Below w.heap.size w w' := by
  cases h with
  | zero => exact hI.elim
  | succ h =>
    obtain ⟨no, nc, xo, xc, ao, ac, oo, oc, rfl, _, ⟨a5, a6, a7, a8⟩, _⟩ := hI
    exact bare_v _ _ _ _ _ _ _ _ _ _ _ _ _ _ _ _ _ w a5 a6 a7 a8

/-- nothing is set -/
def TT.never (T : TT) : Bool := !T.all && T.bare
set_option maxRecDepth 100000 in
set_option maxHeartbeats 1600000 in
theorem never_v (a b c d f : Bool) (eo go io jo : Option Addr) (en ec gn gc inn ic jn jc : Nat) (w : World) (h1 : en ≤ 140737488355328) (h2 : gn ≤ 140737488355328) (h3 : inn ≤ 140737488355328) (h4 : jn ≤ 140737488355328) :
    Calls Tryz.prog 46 #[.agg #[.bool a, .bool b, .bool c, .bool d, .slice eo en ec, .bool f, .slice go gn gc, .slice io inn ic, .slice jo jn jc]] w fun e w' => e = .returned (.bool (!a && bareT b c d f en gn inn jn)) ∧ Below w.heap.size w w' := by
  have HC := Hid.mk (fun u => bare_v a b c d f eo go io jo en ec gn gc inn ic jn jc u h1 h2 h3 h4)
  obtain ⟨r, hr⟩ : ∃ r, bareT b c d f en gn inn jn = r := ⟨_, rfl⟩
  rw [hr] at HC ⊢
  have HX := Hid.mk (tbx_new w (.bool a) (.bool b) (.bool c) (.bool d) (.slice eo en ec) (.bool f) (.slice go gn gc) (.slice io inn ic) (.slice jo jn jc))
  obtain ⟨W0, hW0⟩ : ∃ W0, w.alloc (.cells #[.bool a, .bool b, .bool c, .bool d, .slice eo en ec, .bool f, .slice go gn gc, .slice io inn ic, .slice jo jn jc] 29) = W0 := ⟨_, rfl⟩
  rw [hW0] at HX
  obtain ⟨_, c0, c1, c2, c3, c4, c5, c6, c7, c8, _⟩ := HX.out
  clear hr
  cases a
  · go_enter Tryz.func46, Tryz.ntmps46
    go_wp2_with fail
    refine (HC.out _).mono ?_
    rintro e w1 ⟨rfl, hb1⟩
    have HX1 := Hid.mk (HX.out.keep hb1)
    clear hb1 c0 c1 c2 c3 c4 c5 c6 c7 c8 hW0
    go_wp2_with fail
    go_ret
    exact ⟨by first | rfl | simp, HX1.out.below⟩
  · go_enter Tryz.func46, Tryz.ntmps46
    go_wp2_with fail
    go_ret
    exact ⟨by first | rfl | simp, HX.out.below⟩
theorem w_rNever (h : Nat) (T : TT) (v : Value) (w : World) (hI : InT w h T v) : Calls Tryz.prog 46 #[v] w fun e w' => e = .returned (.bool T.never) ∧ Below w.heap.size w w' := by
  cases h with
  | zero => exact hI.elim
  | succ h =>
    obtain ⟨no, nc, xo, xc, ao, ac, oo, oc, rfl, _, ⟨a5, a6, a7, a8⟩, _⟩ := hI
    exact never_v _ _ _ _ _ _ _ _ _ _ _ _ _ _ _ _ _ w a5 a6 a7 a8

/-- empty, or a number -/
def bndB (s : ByteArray) : Bool := s.size == 0 || Pl.formed s.data.toList
set_option maxRecDepth 100000 in
set_option maxHeartbeats 1600000 in
theorem w_rbound (s : ByteArray) (w : World) (hs : s.size ≤ 140737488355328) : Calls Tryz.prog 44 #[.string s] w fun e w' => e = .returned (.bool (bndB s)) ∧ w' = w := by
  have HC := Hid.mk (fun u => w_Number s u (by omega))
  by_cases h0 : s = ⟨#[]⟩
  · have hb : bndB s = true := by rw [h0]; rfl
    rw [hb]
    subst h0
    go_enter Tryz.func44, Tryz.ntmps44
    go_wp2_with fail
    go_ret
    exact ⟨by first | rfl | simp, rfl⟩
  · have hz : ¬ s.size = 0 := fun h => h0 (by
      cases s with
      | mk d => congr 1; exact Array.eq_empty_of_size_eq_zero h)
    have hb : bndB s = Pl.formed s.data.toList := by simp [bndB, hz]
    rw [hb]
    obtain ⟨r, hr⟩ : ∃ r, Pl.formed s.data.toList = r := ⟨_, rfl⟩
    rw [hr] at HC ⊢
    have hbe : ¬ s.toList = [] := fun h => hz (by
      rw [Lib.toList_data] at h
      have h2 := congrArg List.length h
      rw [Array.length_toList] at h2
      exact h2)
    clear hr hb
    go_enter Tryz.func44, Tryz.ntmps44
    go_wp2_with fail
    refine (HC.out _).mono ?_
    rintro e w1 ⟨rfl, rfl⟩
    go_wp2_with fail
    go_ret
    exact ⟨by first | rfl | (simp; done) | simp [hbe], rfl⟩
end Go.Proofs.YtapjfocjeligiaaGreatDoor
