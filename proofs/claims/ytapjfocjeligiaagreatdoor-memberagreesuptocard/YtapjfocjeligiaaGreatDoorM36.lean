import Derived.Test.YtapjfocjeligiaaGreatDoorM27
import Derived.Test.YtapjfocjeligiaaGreatDoorM17
import Derived.RangeFuncNested
import Derived.RangeFuncBound
import Derived.RangeFuncCalls
import Derived.RangeFuncLeaves
import Derived.RangeFuncBox
import Derived.Shelf.Abstract
import Derived.Shelf.RegionOpen
import Derived.OwnWalkIn
import Derived.TacticsInMore
import Derived.LoopNIn
import Derived.LoopIn
import Derived.Deep.Slices
import Derived.Test.YtapjfocjeligiaaGreatDoorM35
namespace Go.Proofs.YtapjfocjeligiaaGreatDoor
open Go.RowKit Go.Shelf
set_option linter.unusedVariables false
set_option linter.unusedSimpArgs false
attribute [local go_sem] Oper.semAt_some

/-- what a round keeps: all that lay below n₀, the box B, and all boxes from M on -/
structure KpT (n₀ B M : Nat) (W W' : World) : Prop where
  below : Below n₀ W W'
  box : ∀ b j v, (b = B ∨ M ≤ b) → W.cell? ⟨b, j, none⟩ = some v → W'.cell? ⟨b, j, none⟩ = some v
theorem KpT.trans {n₀ B M : Nat} {X Y Z : World} (h : KpT n₀ B M X Y) (k : KpT n₀ B M Y Z) : KpT n₀ B M X Z := ⟨h.below.trans k.below, fun b j v hb hv => k.box b j v hb (h.box b j v hb hv)⟩
theorem KpT.put {n₀ B M : Nat} {w : World} (hm : n₀ ≤ w.heap.size) (W : World) (l : Nat) (o o' : Obj) (hl : w.heap.size ≤ l) (h : W.heap[l]? = some o) (hc : o.isCells = false) (hw : o.isWalk = false) : KpT n₀ B M W (W.putObj l o') := by
  refine ⟨belowK_b (w := w) hm W l o o' hl h hc hw, fun b j v _ hv => ?_⟩
  have hne : b ≠ l := by
    rintro rfl
    unfold World.cell? at hv
    simp only [h] at hv
    cases o <;> simp_all [Obj.isCells]
  unfold World.cell? at hv ⊢
  rw [show (W.putObj l o').heap[b]? = W.heap[b]? from by simp [World.putObj, Array.getElem?_setIfInBounds, Ne.symm hne]]
  exact hv
theorem KpT.of_below {n₀ B M : Nat} {W W' : World} (hn : n₀ ≤ W.heap.size) (hb : Below W.heap.size W W') : KpT n₀ B M W W' :=
  ⟨hb.mono hn, fun b j v _ hv => (hb.cell (p := ⟨b, j, none⟩) (World.block_lt_of_cell? W _ hv)).trans hv⟩
theorem KpT.setO {n₀ B M : Nat} {W : World} {C : Nat} (hn : n₀ ≤ C) (h1 : B ≠ C) (h2 : C < M) (v : Value) : KpT n₀ B M W (W.setCell ⟨C, 0, none⟩ v) :=
  ⟨(Below.refl _ W).setCell (p := ⟨C, 0, none⟩) hn _, fun b j u hb hu => (World.cell?_setCell_other (w := W) (v := v) (a := ⟨C, 0, none⟩) (b := ⟨b, j, none⟩) (fun e => by cases e; omega)).trans hu⟩

/-- a type's value, cell by cell -/
def NineAt (W : World) (b o : Nat) (v : Value) : Prop := ∃ c0 c1 c2 c3 c4 c5 c6 c7 c8 : Value, v = .agg #[c0, c1, c2, c3, c4, c5, c6, c7, c8] ∧ C9 W b o c0 c1 c2 c3 c4 c5 c6 c7 c8
theorem NineAt.keep {W W' : World} {n b o : Nat} {v : Value} (h : NineAt W b o v) (hb : Below n W W') (hl : b < n) : NineAt W' b o v := by
  obtain ⟨c0, c1, c2, c3, c4, c5, c6, c7, c8, e, x⟩ := h
  exact ⟨c0, c1, c2, c3, c4, c5, c6, c7, c8, e, (hb.cell (p := ⟨_, _, _⟩) hl).trans x.c0, (hb.cell (p := ⟨_, _, _⟩) hl).trans x.c1, (hb.cell (p := ⟨_, _, _⟩) hl).trans x.c2, (hb.cell (p := ⟨_, _, _⟩) hl).trans x.c3, (hb.cell (p := ⟨_, _, _⟩) hl).trans x.c4, (hb.cell (p := ⟨_, _, _⟩) hl).trans x.c5, (hb.cell (p := ⟨_, _, _⟩) hl).trans x.c6, (hb.cell (p := ⟨_, _, _⟩) hl).trans x.c7, (hb.cell (p := ⟨_, _, _⟩) hl).trans x.c8⟩
/-- a type's value: one cell each -/
def ShT (v : Value) : Prop := ∃ (a b c d : Bool) (eo : Option Addr) (en ec : Nat) (f : Bool) (go : Option Addr) (gn gc : Nat) (io : Option Addr) (inn ic : Nat) (jo : Option Addr) (jn jc : Nat), v = .agg #[.bool a, .bool b, .bool c, .bool d, .slice eo en ec, .bool f, .slice go gn gc, .slice io inn ic, .slice jo jn jc]
theorem sh_of {W : World} {h : Nat} {T : TT} {v : Value} (hI : InT W h T v) : ShT v := by
  obtain ⟨a, b, c, d, ⟨eo, en, ec⟩, f, ⟨go, gn, gc⟩, ⟨io, inn, ic⟩, ⟨jo, jn, jc⟩, e⟩ := inT_shape hI
  exact ⟨a, b, c, d, eo, en, ec, f, go, gn, gc, io, inn, ic, jo, jn, jc, e⟩
/-- all the types that lie in one, in their order -/
def partsT (az : List (TT × Value)) (os : List (List (TT × Value) × (TT × Value))) : List (TT × Value) := az ++ os.flatMap fun o => o.1 ++ [o.2]
theorem parts_a {az : List (TT × Value)} {os : List (List (TT × Value) × (TT × Value))} {k : Nat} (h : k < az.length) : az[k] ∈ partsT az os := List.mem_append.2 (.inl (List.getElem_mem h))
theorem parts_f {az : List (TT × Value)} {os : List (List (TT × Value) × (TT × Value))} {k j : Nat} (h : k < os.length) (hj : j < os[k].1.length) : os[k].1[j] ∈ partsT az os :=
  List.mem_append.2 (.inr (List.mem_flatMap.2 ⟨os[k], List.getElem_mem h, List.mem_append.2 (.inl (List.getElem_mem hj))⟩))
theorem parts_r {az : List (TT × Value)} {os : List (List (TT × Value) × (TT × Value))} {k : Nat} (h : k < os.length) : os[k].2 ∈ partsT az os :=
  List.mem_append.2 (.inr (List.mem_flatMap.2 ⟨os[k], List.getElem_mem h, List.mem_append.2 (.inr (by simp))⟩))
theorem parts_la {az : List (TT × Value)} {os : List (List (TT × Value) × (TT × Value))} : az.length ≤ (partsT az os).length := by unfold partsT; rw [List.length_append]; omega
theorem parts_split {az : List (TT × Value)} {os : List (List (TT × Value) × (TT × Value))} {k : Nat} (h : k < os.length) (j : Nat) : partsT az os = (az ++ (os.take k).flatMap (fun o => o.1 ++ [o.2]) ++ os[k].1.take j) ++ (os[k].1.drop j ++ ([os[k].2] ++ (os.drop (k + 1)).flatMap (fun o => o.1 ++ [o.2]))) := by
  unfold partsT
  conv => lhs; rw [← List.take_append_drop k os, List.drop_eq_getElem_cons h, List.flatMap_append, List.flatMap_cons]
  simp only [List.append_assoc]
  rw [← List.append_assoc (os[k].1.take j), List.take_append_drop]
theorem parts_up {az : List (TT × Value)} {os : List (List (TT × Value) × (TT × Value))} {k : Nat} (h : k < os.length) : az ++ (os.take (k + 1)).flatMap (fun o => o.1 ++ [o.2]) = (az ++ (os.take k).flatMap (fun o => o.1 ++ [o.2]) ++ os[k].1) ++ [os[k].2] := by
  rw [List.take_succ_eq_append_getElem h, List.flatMap_append]; simp
/-- what the iterator reads -/
structure InTS (W : World) (n₀ B : Nat) (ao : Option Addr) (ac : Nat) (oo : Option Addr) (oc : Nat) (az : List (TT × Value)) (os : List (List (TT × Value) × (TT × Value))) : Prop where
  c7 : W.cell? ⟨B, 7, none⟩ = some (.slice ao az.length ac)
  c8 : W.cell? ⟨B, 8, none⟩ = some (.slice oo os.length oc)
  arrs : ∀ i, (hi : i < az.length) → ∃ b off mn mx, ao = some ⟨b, off, none⟩ ∧ b < n₀ ∧ NineAt W b (off + i * 11) az[i].2 ∧ W.cell? ⟨b, off + i * 11 + 9, none⟩ = some (.int .i64 mn) ∧ W.cell? ⟨b, off + i * 11 + 10, none⟩ = some (.int .i64 mx)
  objs : ∀ k, (hk : k < os.length) → ∃ b off ko nK kc fo fc mo nM mc, oo = some ⟨b, off, none⟩ ∧ b < n₀ ∧ (W.cell? ⟨b, off + k * 12, none⟩ = some (.slice ko nK kc) ∧ W.cell? ⟨b, off + k * 12 + 1, none⟩ = some (.slice fo os[k].1.length fc) ∧ W.cell? ⟨b, off + k * 12 + 2, none⟩ = some (.slice mo nM mc)) ∧ NineAt W b (off + k * 12 + 3) os[k].2.2 ∧ os[k].1.length ≤ fc ∧ os[k].1.length ≤ 140737488355328 ∧
    ∀ j, (hj : j < os[k].1.length) → ∃ b2 off2, fo = some ⟨b2, off2, none⟩ ∧ b2 < n₀ ∧ NineAt W b2 (off2 + j * 9) os[k].1[j].2
theorem InTS.keep {W W' : World} {n₀ B M : Nat} {ao : Option Addr} {ac : Nat} {oo : Option Addr} {oc : Nat} {az : List (TT × Value)} {os : List (List (TT × Value) × (TT × Value))} (h : InTS W n₀ B ao ac oo oc az os) (hk : KpT n₀ B M W W') : InTS W' n₀ B ao ac oo oc az os := by
  refine ⟨hk.box _ _ _ (.inl rfl) h.c7, hk.box _ _ _ (.inl rfl) h.c8, fun i hi => ?_, fun k hk2 => ?_⟩
  · obtain ⟨b, off, mn, mx, e, hb, x, y, z⟩ := h.arrs i hi
    exact ⟨b, off, mn, mx, e, hb, x.keep hk.below hb, (hk.below.cell (p := ⟨_, _, _⟩) hb).trans y, (hk.below.cell (p := ⟨_, _, _⟩) hb).trans z⟩
  · obtain ⟨b, off, ko, nK, kc, fo, fc, mo, nM, mc, e, hb, ⟨x, y, z⟩, r, l1, l2, hf⟩ := h.objs k hk2
    refine ⟨b, off, ko, nK, kc, fo, fc, mo, nM, mc, e, hb, ⟨(hk.below.cell (p := ⟨_, _, _⟩) hb).trans x, (hk.below.cell (p := ⟨_, _, _⟩) hb).trans y, (hk.below.cell (p := ⟨_, _, _⟩) hb).trans z⟩, r.keep hk.below hb, l1, l2, fun j hj => ?_⟩
    obtain ⟨b2, off2, e2, hb2, x2⟩ := hf j hj
    exact ⟨b2, off2, e2, hb2, x2.keep hk.below hb2⟩

set_option maxRecDepth 100000 in
set_option maxHeartbeats 8000000 in
theorem insideT_in (n : Nat) (hn : 1 ≤ n) (l n₀ B M : Nat) (ao : Option Addr) (ac : Nat) (oo : Option Addr) (oc : Nat) (az : List (TT × Value)) (os : List (List (TT × Value) × (TT × Value))) (hA : az.length ≤ ac) (hO : os.length ≤ oc) (hA2 : az.length ≤ 140737488355328) (hO2 : os.length ≤ 140737488355328) (hsh : ∀ x ∈ partsT az os, ShT x.2)
    (J Jx : List { x : TT × Value // x ∈ partsT az os } → World → Prop) (W : World) (hn0 : n₀ ≤ W.heap.size) (hM : M ≤ W.heap.size) (hS : InTS W n₀ B ao ac oo oc az os) (hJ : AbidesFrom W.heap.size J) (hJx : AbidesFrom W.heap.size Jx)
    (hY : ∀ pre (x : { x : TT × Value // x ∈ partsT az os }) W1, J pre W1 → pre.length < (partsT az os).length → YieldAt Fence.wide (n - 1) Tryz.prog l #[x.1.2] W1 fun e W' =>
      (e = .returned (.bool true) ∧ J (pre ++ [x]) W' ∧ KpT n₀ B M W1 W') ∨ (e = .returned (.bool false) ∧ Jx (pre ++ [x]) W')) (h0 : J [] W) :
    CallsIn Fence.wide n Tryz.prog 80 #[.func (.yield l) #[] #[], .pointer (some ⟨B, 0, none⟩)] W fun e W' => (∃ v, e = .returned v) ∧
      ((∃ xs : List { x : TT × Value // x ∈ partsT az os }, xs.map (·.1) = partsT az os ∧ J xs W') ∨ (∃ pre, True ∧ Jx pre W')) := by
  have HJ := Hid.mk hJ
  have HY := Hid.mk hY
  have H0 := Hid.mk h0
  have HS := Hid.mk hS
  have HSh := Hid.mk hsh
  have g7 := hS.c7
  clear hJ hJx hY h0 hS hsh
  obtain ⟨NA, hNA⟩ : ∃ NA, az.length = NA := ⟨_, rfl⟩
  obtain ⟨NO, hNO⟩ : ∃ NO, os.length = NO := ⟨_, rfl⟩
  have HNA := Hid.mk hNA
  have HNO := Hid.mk hNO
  rw [hNA] at g7 hA hA2
  rw [hNO] at hO hO2
  clear hNA hNO
  refine callsIn_of_wp Tryz.func80 rfl trivial ?_ rfl
  simp only [Tryz.ntmps80, List.size_toArray, List.length_cons, List.length_nil, Nat.reduceAdd, Nat.reduceSub, Array.replicate_succ, Array.replicate_zero, List.push_toArray, List.append_toArray, List.nil_append, List.cons_append]
  gi_wp2_with fail
  clear g7
  gi_loopw [12] (fun i wr => ∃ (k : Nat), k ≤ NA ∧ i = .int .i64 (k : Int) ∧ n₀ ≤ wr.heap.size ∧ M ≤ wr.heap.size ∧ W.heap.size ≤ wr.heap.size ∧ Hid (InTS wr n₀ B ao ac oo oc az os ∧ ∃ pre : List { x : TT × Value // x ∈ partsT az os }, pre.map (·.1) = az.take k ∧ J pre wr)) (fun i _ => NA - (intOf i).toNat)
  case atStart => exact ⟨0, Nat.zero_le _, rfl, hn0, hM, Nat.le_refl _, HS.out, [], by simp, H0.out⟩
  case round =>
    obtain ⟨k, hk, rfl, hn1, hm1, hw1, HQ⟩ := hrel
    by_cases hlt : k < NA
    · have hl1 : (k : Int) < (NA : Int) := by omega
      have hka : k < az.length := by rw [HNA.out]; exact hlt
      obtain ⟨b, off, mn, mx, hao, hb, ⟨c0, c1, c2, c3, c4, c5, c6, c7, c8, hnv, hc9⟩, am, ax⟩ := HQ.out.1.arrs k hka
      subst hao
      obtain ⟨sa, sb, sc, sd, seo, sen, sec, sf, sgo, sgn, sgc, sio, sinn, sic, sjo, sjn, sjc, hsv⟩ := HSh.out _ (parts_a (os := os) hka)
      rw [hsv] at hnv
      simp only [Value.agg.injEq, Array.mk.injEq, List.cons.injEq, and_true] at hnv
      obtain ⟨rfl, rfl, rfl, rfl, rfl, rfl, rfl, rfl, rfl⟩ := hnv
      obtain ⟨q0, q1, q2, q3, q4, q5, q6, q7, q8⟩ := hc9
      obtain ⟨pre, hpre, hJp⟩ := HQ.out.2
      have hAl : Below wr.heap.size wr (wr.alloc (.cells #[.bool sa, .bool sb, .bool sc, .bool sd, .slice seo sen sec, .bool sf, .slice sgo sgn sgc, .slice sio sinn sic, .slice sjo sjn sjc, .int .i64 mn, .int .i64 mx] 31)) := below1 wr _
      have hJ1 : J pre (wr.alloc (.cells #[.bool sa, .bool sb, .bool sc, .bool sd, .slice seo sen sec, .bool sf, .slice sgo sgn sgc, .slice sio sinn sic, .slice sjo sjn sjc, .int .i64 mn, .int .i64 mx] 31)) := HJ.out _ _ _ none hJp ⟨hAl.os, hAl.tape, hAl.output, hAl.size, fun j hj _ => hAl.block j hj⟩ (fun r e => by cases e)
      have hpl : pre.length = k := by have := congrArg List.length hpre; rw [List.length_map, List.length_take] at this; omega
      obtain ⟨fn, tmps, assign, body, hy, hR⟩ := HY.out pre ⟨az[k], parts_a hka⟩ _ hJ1 (by have := parts_la (az := az) (os := os); omega)
      dsimp only at hy
      rw [hsv] at hy
      have HSa := Hid.mk (HQ.out.1.keep (KpT.of_below (M := M) hn1 hAl))
      have HRd := Hid.mk hR
      have HPr : Hid ((pre ++ [(⟨az[k], parts_a hka⟩ : { x : TT × Value // x ∈ partsT az os })]).map (·.1) = az.take (k + 1)) := by show _ = _; rw [List.map_append, hpre, List.take_add_one, List.getElem?_eq_getElem hka]; rfl
      clear hJ1 hJp hpre hpl hR hAl hsv
      gi_wp2_with fail
      refine HRd.out.mono ?_
      rintro e W4 (⟨rfl, hJ4, hk4⟩ | ⟨rfl, hJx4⟩)
      · have HN : Hid (InTS W4 n₀ B (some ⟨b, off, none⟩) ac oo oc az os ∧ ∃ pre : List { x : TT × Value // x ∈ partsT az os }, pre.map (·.1) = az.take (k + 1) ∧ J pre W4) := ⟨HSa.out.keep hk4, _, HPr.out, hJ4⟩
        have hs4 := hk4.below.size
        clear hJ4 hk4 hy
        gi_wp2_with fail
        go_roundw
        case rel => exact ⟨k + 1, hlt, by go_num, by simp at hs4; omega, by simp at hs4; omega, by simp at hs4; omega, HN⟩
        case measure => simp [intOf]; omega
      · have HX := Hid.mk hJx4
        clear hJx4 hy
        gi_wp2_with fail
        refine bodyPost_ret (results_none rfl _ _ _) rfl ?_
        exact ⟨⟨_, rfl⟩, .inr ⟨_, trivial, HX.out⟩⟩
    · have hl1 : ¬ (k : Int) < (NA : Int) := by omega
      have HQ2 : Hid (InTS wr n₀ B ao ac oo oc az os ∧ ∃ pre : List { x : TT × Value // x ∈ partsT az os }, pre.map (·.1) = az ++ (os.take 0).flatMap (fun o => o.1 ++ [o.2]) ∧ J pre wr) := by
        obtain ⟨hs, pre, hpre, hJp⟩ := HQ.out
        exact ⟨hs, pre, by rw [hpre, List.take_of_length_le (by rw [HNA.out]; omega)]; simp, hJp⟩
      have g8 := HQ.out.1.c8
      rw [HNO.out] at g8
      clear HQ hk hlt
      gi_wp2_with fail
      clear g8 hl1
      gi_loopw [25] (fun i wr => ∃ (k : Nat), k ≤ NO ∧ i = .int .i64 (k : Int) ∧ n₀ ≤ wr.heap.size ∧ M ≤ wr.heap.size ∧ W.heap.size ≤ wr.heap.size ∧ Hid (InTS wr n₀ B ao ac oo oc az os ∧ ∃ pre : List { x : TT × Value // x ∈ partsT az os }, pre.map (·.1) = az ++ (os.take k).flatMap (fun o => o.1 ++ [o.2]) ∧ J pre wr)) (fun i _ => NO - (intOf i).toNat)
      case atStart => exact ⟨0, Nat.zero_le _, rfl, hn1, hm1, hw1, HQ2⟩
      case round =>
        clear hn1 hm1 hw1 HQ2
        obtain ⟨k, hk, rfl, hn1, hm1, hw1, HQ⟩ := hrel
        by_cases hlt : k < NO
        · have hl1 : (k : Int) < (NO : Int) := by omega
          have hko : k < os.length := by rw [HNO.out]; exact hlt
          obtain ⟨b, off, ko, nK, kc, fo, fc, mo, nM, mc, hoo, hb, ⟨k0, k1, k2⟩, ⟨c0, c1, c2, c3, c4, c5, c6, c7, c8, hnv, hc9⟩, hfc, hfl, hfd⟩ := HQ.out.1.objs k hko
          subst hoo
          obtain ⟨sa, sb, sc, sd, seo, sen, sec, sf, sgo, sgn, sgc, sio, sinn, sic, sjo, sjn, sjc, hsv⟩ := HSh.out _ (parts_r (az := az) hko)
          have hsv2 := hsv
          rw [hsv] at hnv
          simp only [Value.agg.injEq, Array.mk.injEq, List.cons.injEq, and_true] at hnv
          obtain ⟨rfl, rfl, rfl, rfl, rfl, rfl, rfl, rfl, rfl⟩ := hnv
          obtain ⟨q0, q1, q2, q3, q4, q5, q6, q7, q8⟩ := hc9
          obtain ⟨NF, hNF⟩ : ∃ NF, os[k].1.length = NF := ⟨_, rfl⟩
          have HNF := Hid.mk hNF
          have HFD := Hid.mk hfd
          rw [hNF] at k1 hfc hfl
          obtain ⟨pre0, hpre0, hJp0⟩ := HQ.out.2
          have hAl : Below wr.heap.size wr (wr.alloc (.cells #[.slice ko nK kc, .slice fo NF fc, .slice mo nM mc, .bool sa, .bool sb, .bool sc, .bool sd, .slice seo sen sec, .bool sf, .slice sgo sgn sgc, .slice sio sinn sic, .slice sjo sjn sjc] 60)) := below1 wr _
          have hJ1 : J pre0 (wr.alloc (.cells #[.slice ko nK kc, .slice fo NF fc, .slice mo nM mc, .bool sa, .bool sb, .bool sc, .bool sd, .slice seo sen sec, .bool sf, .slice sgo sgn sgc, .slice sio sinn sic, .slice sjo sjn sjc] 60)) := HJ.out _ _ _ none hJp0 ⟨hAl.os, hAl.tape, hAl.output, hAl.size, fun j hj _ => hAl.block j hj⟩ (fun r e => by cases e)
          have HBl0 := Hid.mk (hAl.mono hn1)
          obtain ⟨wr0, hwr0⟩ : ∃ wr0, wr0 = wr := ⟨_, rfl⟩
          obtain ⟨X, hX⟩ : ∃ X, wr.heap.size = X := ⟨_, rfl⟩
          have hXM : M ≤ X := by omega
          have hXW : W.heap.size ≤ X := by omega
          have HBX : Hid (C9 (wr.alloc (.cells #[.slice ko nK kc, .slice fo NF fc, .slice mo nM mc, .bool sa, .bool sb, .bool sc, .bool sd, .slice seo sen sec, .bool sf, .slice sgo sgn sgc, .slice sio sinn sic, .slice sjo sjn sjc] 60)) X 3 (.bool sa) (.bool sb) (.bool sc) (.bool sd) (.slice seo sen sec) (.bool sf) (.slice sgo sgn sgc) (.slice sio sinn sic) (.slice sjo sjn sjc)) := by
            rw [← hX]; exact ⟨by simp [go_sem], by simp [go_sem], by simp [go_sem], by simp [go_sem], by simp [go_sem], by simp [go_sem], by simp [go_sem], by simp [go_sem], by simp [go_sem]⟩
          have HQ3 : Hid (InTS (wr.alloc (.cells #[.slice ko nK kc, .slice fo NF fc, .slice mo nM mc, .bool sa, .bool sb, .bool sc, .bool sd, .slice seo sen sec, .bool sf, .slice sgo sgn sgc, .slice sio sinn sic, .slice sjo sjn sjc] 60)) n₀ B ao ac (some ⟨b, off, none⟩) oc az os ∧ ∃ pre : List { x : TT × Value // x ∈ partsT az os }, pre.map (·.1) = az ++ (os.take k).flatMap (fun o => o.1 ++ [o.2]) ++ os[k].1.take 0 ∧ J pre (wr.alloc (.cells #[.slice ko nK kc, .slice fo NF fc, .slice mo nM mc, .bool sa, .bool sb, .bool sc, .bool sd, .slice seo sen sec, .bool sf, .slice sgo sgn sgc, .slice sio sinn sic, .slice sjo sjn sjc] 60))) := ⟨HQ.out.1.keep (KpT.of_below (M := M) hn1 hAl), pre0, by rw [hpre0]; simp, hJ1⟩
          have hsz1 : (wr.alloc (.cells #[.slice ko nK kc, .slice fo NF fc, .slice mo nM mc, .bool sa, .bool sb, .bool sc, .bool sd, .slice seo sen sec, .bool sf, .slice sgo sgn sgc, .slice sio sinn sic, .slice sjo sjn sjc] 60)).heap.size = X + 1 := by rw [← hX]; simp
          have HSV := Hid.mk hsv2
          obtain ⟨V, hV⟩ : ∃ V, wr.alloc (.cells #[.slice ko nK kc, .slice fo NF fc, .slice mo nM mc, .bool sa, .bool sb, .bool sc, .bool sd, .slice seo sen sec, .bool sf, .slice sgo sgn sgc, .slice sio sinn sic, .slice sjo sjn sjc] 60) = V := ⟨_, rfl⟩
          rw [hV] at hsz1 HBX HQ3 HBl0
          rw [← hwr0] at HBl0 HFD
          clear hwr0
          have x1 : V.cell? ⟨X, 1, none⟩ = some (.slice fo NF fc) := by rw [← hV, ← hX]; simp [go_sem]
          have hXl : X < V.heap.size := by omega
          clear hAl hJ1 hJp0 hpre0 hsv hsv2 hfd HQ hNF
          gi_wp2_with fail
          clear x1 hl1 k0 k1 k2 hV q0 q1 q2 q3 q4 q5 q6 q7 q8
          gi_loopw [32] (fun i wr => ∃ (j : Nat), j ≤ NF ∧ i = .int .i64 (j : Int) ∧ n₀ ≤ wr.heap.size ∧ M ≤ wr.heap.size ∧ W.heap.size ≤ wr.heap.size ∧ X < wr.heap.size ∧ Hid (Below n₀ wr0 wr) ∧ Hid (C9 wr X 3 (.bool sa) (.bool sb) (.bool sc) (.bool sd) (.slice seo sen sec) (.bool sf) (.slice sgo sgn sgc) (.slice sio sinn sic) (.slice sjo sjn sjc)) ∧ Hid (InTS wr n₀ B ao ac (some ⟨b, off, none⟩) oc az os ∧ ∃ pre : List { x : TT × Value // x ∈ partsT az os }, pre.map (·.1) = az ++ (os.take k).flatMap (fun o => o.1 ++ [o.2]) ++ os[k].1.take j ∧ J pre wr)) (fun i _ => NF - (intOf i).toNat)
          case atStart => exact ⟨0, Nat.zero_le _, rfl, by omega, by omega, by omega, hXl, HBl0, HBX, HQ3⟩
          case round =>
            clear hn1 hm1 hw1 HQ3 HBX hXl hsz1 hX
            obtain ⟨j, hj, rfl, hn1, hm1, hw1, hXl, HBl, HBX, HQ⟩ := hrel
            by_cases hjt : j < NF
            · have hj1 : (j : Int) < (NF : Int) := by omega
              have hjf : j < os[k].1.length := by rw [HNF.out]; exact hjt
              obtain ⟨b2, off2, hfo, hb2, hn9⟩ := HFD.out j hjf
              subst hfo
              obtain ⟨c0, c1, c2, c3, c4, c5, c6, c7, c8, hnv, hc9⟩ := hn9.keep HBl.out hb2
              obtain ⟨ta, tb, tc, td, teo, ten, tec, tf, tgo, tgn, tgc, tio, tinn, tic, tjo, tjn, tjc, hsv⟩ := HSh.out _ (parts_f (az := az) hko hjf)
              rw [hsv] at hnv
              simp only [Value.agg.injEq, Array.mk.injEq, List.cons.injEq, and_true] at hnv
              obtain ⟨rfl, rfl, rfl, rfl, rfl, rfl, rfl, rfl, rfl⟩ := hnv
              obtain ⟨q0, q1, q2, q3, q4, q5, q6, q7, q8⟩ := hc9
              obtain ⟨pre, hpre, hJp⟩ := HQ.out.2
              have hAl : Below wr.heap.size wr (wr.alloc (.cells #[.bool ta, .bool tb, .bool tc, .bool td, .slice teo ten tec, .bool tf, .slice tgo tgn tgc, .slice tio tinn tic, .slice tjo tjn tjc] 29)) := below1 wr _
              have hJ1 : J pre (wr.alloc (.cells #[.bool ta, .bool tb, .bool tc, .bool td, .slice teo ten tec, .bool tf, .slice tgo tgn tgc, .slice tio tinn tic, .slice tjo tjn tjc] 29)) := HJ.out _ _ _ none hJp ⟨hAl.os, hAl.tape, hAl.output, hAl.size, fun j hj _ => hAl.block j hj⟩ (fun r e => by cases e)
              have hpl : pre.length < (partsT az os).length := by
                have h1 := congrArg List.length hpre
                rw [List.length_map] at h1
                have h2 := congrArg List.length (parts_split (az := az) hko j)
                rw [List.length_append, ← h1] at h2
                rw [h2]; simp; omega
              obtain ⟨fn, tmps, assign, body, hy, hR⟩ := HY.out pre ⟨os[k].1[j], parts_f hko hjf⟩ _ hJ1 hpl
              dsimp only at hy
              rw [hsv] at hy
              have HSa := Hid.mk (HQ.out.1.keep (KpT.of_below (M := M) hn1 hAl))
              have hAlH := Hid.mk hAl
              have HBa := Hid.mk (HBX.out.keep hAl hXl)
              have HRd := Hid.mk hR
              have HPr : Hid ((pre ++ [(⟨os[k].1[j], parts_f hko hjf⟩ : { x : TT × Value // x ∈ partsT az os })]).map (·.1) = az ++ (os.take k).flatMap (fun o => o.1 ++ [o.2]) ++ os[k].1.take (j + 1)) := by show _ = _; rw [List.map_append, hpre, List.take_succ_eq_append_getElem hjf]; simp
              clear hJ1 hJp hpre hpl hR hAl hsv hn9
              gi_wp2_with fail
              refine HRd.out.mono ?_
              rintro e W4 (⟨rfl, hJ4, hk4⟩ | ⟨rfl, hJx4⟩)
              · have HN : Hid (InTS W4 n₀ B ao ac (some ⟨b, off, none⟩) oc az os ∧ ∃ pre : List { x : TT × Value // x ∈ partsT az os }, pre.map (·.1) = az ++ (os.take k).flatMap (fun o => o.1 ++ [o.2]) ++ os[k].1.take (j + 1) ∧ J pre W4) := ⟨HSa.out.keep hk4, _, HPr.out, hJ4⟩
                have HBln : Hid (Below n₀ wr0 W4) := (HBl.out.trans (hAlH.out.mono hn1)).trans hk4.below
                have HBn : Hid (C9 W4 X 3 (.bool sa) (.bool sb) (.bool sc) (.bool sd) (.slice seo sen sec) (.bool sf) (.slice sgo sgn sgc) (.slice sio sinn sic) (.slice sjo sjn sjc)) := ⟨hk4.box _ _ _ (.inr hXM) HBa.out.c0, hk4.box _ _ _ (.inr hXM) HBa.out.c1, hk4.box _ _ _ (.inr hXM) HBa.out.c2, hk4.box _ _ _ (.inr hXM) HBa.out.c3, hk4.box _ _ _ (.inr hXM) HBa.out.c4, hk4.box _ _ _ (.inr hXM) HBa.out.c5, hk4.box _ _ _ (.inr hXM) HBa.out.c6, hk4.box _ _ _ (.inr hXM) HBa.out.c7, hk4.box _ _ _ (.inr hXM) HBa.out.c8⟩
                have hs4 := hk4.below.size
                clear hJ4 hk4 hy
                gi_wp2_with fail
                go_roundw
                case rel => exact ⟨j + 1, hjt, by go_num, by simp at hs4; omega, by simp at hs4; omega, by simp at hs4; omega, by simp at hs4; omega, HBln, HBn, HN⟩
                case measure => simp [intOf]; omega
              · have HX := Hid.mk hJx4
                clear hJx4 hy
                gi_wp2_with fail
                refine bodyPost_ret (results_none rfl _ _ _) rfl ?_
                exact ⟨⟨_, rfl⟩, .inr ⟨_, trivial, HX.out⟩⟩
            · have hj1 : ¬ (j : Int) < (NF : Int) := by omega
              obtain ⟨pre, hpre, hJp⟩ := HQ.out.2
              have htk : os[k].1.take j = os[k].1 := List.take_of_length_le (by rw [HNF.out]; omega)
              rw [htk] at hpre
              have hpl : pre.length < (partsT az os).length := by
                have h1 := congrArg List.length hpre
                rw [List.length_map] at h1
                have h2 := congrArg List.length (parts_split (az := az) hko os[k].1.length)
                have htl : os[k].1.take os[k].1.length = os[k].1 := List.take_length
                rw [htl, List.length_append, ← h1] at h2
                rw [h2]; simp
              obtain ⟨fn, tmps, assign, body, hy, hR⟩ := HY.out pre ⟨os[k].2, parts_r hko⟩ _ hJp hpl
              dsimp only at hy
              rw [HSV.out] at hy
              have HSa := Hid.mk HQ.out.1
              have HRd := Hid.mk hR
              have HPr : Hid ((pre ++ [(⟨os[k].2, parts_r hko⟩ : { x : TT × Value // x ∈ partsT az os })]).map (·.1) = az ++ (os.take (k + 1)).flatMap (fun o => o.1 ++ [o.2])) := by show _ = _; rw [parts_up hko, List.map_append, hpre]; rfl
              obtain ⟨q0, q1, q2, q3, q4, q5, q6, q7, q8⟩ := HBX.out
              simp only [Nat.reduceAdd] at q1 q2 q3 q4 q5 q6 q7 q8
              clear hJp hpre hpl hR HQ
              gi_wp2_with fail
              refine HRd.out.mono ?_
              rintro e W4 (⟨rfl, hJ4, hk4⟩ | ⟨rfl, hJx4⟩)
              · have HN : Hid (InTS W4 n₀ B ao ac (some ⟨b, off, none⟩) oc az os ∧ ∃ pre : List { x : TT × Value // x ∈ partsT az os }, pre.map (·.1) = az ++ (os.take (k + 1)).flatMap (fun o => o.1 ++ [o.2]) ∧ J pre W4) := ⟨HSa.out.keep hk4, _, HPr.out, hJ4⟩
                have hs4 := hk4.below.size
                clear hJ4 hk4 hy q0 q1 q2 q3 q4 q5 q6 q7 q8
                gi_wp2_with fail
                go_roundw
                case rel => exact ⟨k + 1, hlt, by go_num, by omega, by omega, by omega, HN⟩
                case measure => simp [intOf]; omega
              · have HX := Hid.mk hJx4
                clear hJx4 hy
                gi_wp2_with fail
                refine bodyPost_ret (results_none rfl _ _ _) rfl ?_
                exact ⟨⟨_, rfl⟩, .inr ⟨_, trivial, HX.out⟩⟩
        · have hl1 : ¬ (k : Int) < (NO : Int) := by omega
          have HF : Hid (∃ xs : List { x : TT × Value // x ∈ partsT az os }, xs.map (·.1) = partsT az os ∧ J xs wr) := by
            obtain ⟨_, pre, hpre, hJp⟩ := HQ.out
            exact ⟨pre, by rw [hpre, List.take_of_length_le (by rw [HNO.out]; omega)]; rfl, hJp⟩
          clear HQ
          gi_wp2_with fail
          go_end0
          exact ⟨⟨_, rfl⟩, .inl HF.out⟩
end Go.Proofs.YtapjfocjeligiaaGreatDoor
namespace Go.Proofs.YtapjfocjeligiaaGreatDoor
open Go.RowKit Go.Shelf
set_option linter.unusedVariables false
set_option linter.unusedSimpArgs false
attribute [local go_sem] Oper.semAt_some

/-- the types that lie in one -/
def insT (T : TT) : List TT := T.arrs.map AR.item ++ T.objs.flatMap fun o => o.fields ++ [o.rest]
theorem parts_open {w : World} {h : Nat} {T : TT} {no : Option Addr} {nn nc : Nat} {xo : Option Addr} {nx xc : Nat} {ao : Option Addr} {NA ac : Nat} {oo : Option Addr} {NO oc : Nat} {b0 b1 b2 b3 b5 : Bool}
    (hI : InT w (h + 1) T (.agg #[.bool b0, .bool b1, .bool b2, .bool b3, .slice no nn nc, .bool b5, .slice xo nx xc, .slice ao NA ac, .slice oo NO oc])) :
    ∃ (az : List (TT × Value)) (os : List (List (TT × Value) × (TT × Value))), az.length = NA ∧ os.length = NO ∧ NA ≤ ac ∧ NO ≤ oc ∧ NA ≤ 140737488355328 ∧ NO ≤ 140737488355328 ∧ (partsT az os).map (·.1) = insT T ∧ (∀ x ∈ partsT az os, InT w h x.1 x.2) ∧
      ∀ (W : World) (B : Nat), Below w.heap.size w W → W.cell? ⟨B, 7, none⟩ = some (.slice ao NA ac) → W.cell? ⟨B, 8, none⟩ = some (.slice oo NO oc) → InTS W w.heap.size B ao ac oo oc az os := by
  obtain ⟨no', nc', xo', xc', ao', ac', oo', oc', e, ⟨_, _, a3, a4⟩, ⟨_, _, a7, a8⟩, _, _, _, _, ha, ho⟩ := hI
  simp only [Value.agg.injEq, Array.mk.injEq, List.cons.injEq, Value.bool.injEq, Value.slice.injEq, and_true] at e
  obtain ⟨rfl, rfl, rfl, rfl, _, rfl, _, ⟨rfl, rfl, rfl⟩, rfl, rfl, rfl⟩ := e
  have keyA : ∀ i, i < T.arrs.length → ∃ v : Value, ∃ hi : i < T.arrs.length, InT w h T.arrs[i].item v ∧ ∃ b off mn mx, ao = some ⟨b, off, none⟩ ∧ b < w.heap.size ∧ NineAt w b (off + i * 11) v ∧ w.cell? ⟨b, off + i * 11 + 9, none⟩ = some (.int .i64 mn) ∧ w.cell? ⟨b, off + i * 11 + 10, none⟩ = some (.int .i64 mx) := by
    intro i hi
    obtain ⟨b, off, e2, hl, hc⟩ := ha (by omega)
    obtain ⟨c0, c1, c2, c3, c4, c5, c6, c7, c8, h1, h2, h3, h4⟩ := hc i hi
    exact ⟨_, hi, h4, b, off, _, _, e2, hl, ⟨c0, c1, c2, c3, c4, c5, c6, c7, c8, rfl, h1⟩, h2, h3⟩
  have keyO : ∀ k, k < T.objs.length → ∃ p : Value × (Nat → Value), ∃ hk : k < T.objs.length, InT w h T.objs[k].rest p.1 ∧ (∀ j, (hj : j < T.objs[k].fields.length) → InT w h T.objs[k].fields[j] (p.2 j)) ∧
      ∃ b off ko nK kc fo fc mo nM mc, oo = some ⟨b, off, none⟩ ∧ b < w.heap.size ∧ (w.cell? ⟨b, off + k * 12, none⟩ = some (.slice ko nK kc) ∧ w.cell? ⟨b, off + k * 12 + 1, none⟩ = some (.slice fo T.objs[k].fields.length fc) ∧ w.cell? ⟨b, off + k * 12 + 2, none⟩ = some (.slice mo nM mc)) ∧ NineAt w b (off + k * 12 + 3) p.1 ∧ T.objs[k].fields.length ≤ fc ∧ T.objs[k].fields.length ≤ 140737488355328 ∧
        ∀ j, j < T.objs[k].fields.length → ∃ b2 off2, fo = some ⟨b2, off2, none⟩ ∧ b2 < w.heap.size ∧ NineAt w b2 (off2 + j * 9) (p.2 j) := by
    intro k hk
    obtain ⟨b, off, e2, hl, hc⟩ := ho (by omega)
    obtain ⟨ko, kc, fo, fc, mo, mc, c0, c1, c2, c3, c4, c5, c6, c7, c8, g, h1, ⟨_, h2, _⟩, ⟨_, h3, _, _⟩, h4, h5, h6, h7⟩ := hc k hk
    have keyF : ∀ j, j < T.objs[k].fields.length → ∃ v : Value, ∃ hj : j < T.objs[k].fields.length, InT w h T.objs[k].fields[j] v ∧ ∃ b2 off2, fo = some ⟨b2, off2, none⟩ ∧ b2 < w.heap.size ∧ NineAt w b2 (off2 + j * 9) v := by
      intro j hj
      obtain ⟨b2, off2, e3, hl2, hd⟩ := h6 (by omega)
      obtain ⟨d0, d1, d2, d3, d4, d5, d6, d7, d8, k1, k2⟩ := hd j hj
      exact ⟨_, hj, k2, b2, off2, e3, hl2, d0, d1, d2, d3, d4, d5, d6, d7, d8, rfl, k1⟩
    haveI : Inhabited Value := ⟨undef⟩
    obtain ⟨F, hF⟩ := Go.Deep.choose_lt keyF
    exact ⟨(_, F), hk, h7, fun j hj => (hF j hj).2.1, b, off, ko, _, kc, fo, fc, mo, _, mc, e2, hl, g, ⟨c0, c1, c2, c3, c4, c5, c6, c7, c8, rfl, h1⟩, h2, h3, fun j hj => (hF j hj).2.2⟩
  haveI : Inhabited Value := ⟨undef⟩
  obtain ⟨cA, hcA⟩ := Go.Deep.choose_lt keyA
  haveI : Inhabited (Value × (Nat → Value)) := ⟨(undef, fun _ => undef)⟩
  obtain ⟨cO, hcO⟩ := Go.Deep.choose_lt keyO
  obtain ⟨az, haz⟩ : ∃ az : List (TT × Value), az = List.ofFn fun i : Fin T.arrs.length => (T.arrs[i].item, cA i) := ⟨_, rfl⟩
  obtain ⟨os, hos⟩ : ∃ os : List (List (TT × Value) × (TT × Value)), os = List.ofFn fun k : Fin T.objs.length => (List.ofFn (fun j : Fin T.objs[k].fields.length => (T.objs[k].fields[j], (cO k).2 j)), (T.objs[k].rest, (cO k).1)) := ⟨_, rfl⟩
  have lA : az.length = T.arrs.length := by rw [haz, List.length_ofFn]
  have lO : os.length = T.objs.length := by rw [hos, List.length_ofFn]
  have gA : ∀ i, (hi : i < az.length) → (hi2 : i < T.arrs.length) → az[i] = (T.arrs[i].item, cA i) := fun i hi hi2 => by subst haz; simp
  have gO : ∀ k, (hk : k < os.length) → (hk2 : k < T.objs.length) → os[k] = (List.ofFn (fun j : Fin T.objs[k].fields.length => (T.objs[k].fields[j], (cO k).2 j)), (T.objs[k].rest, (cO k).1)) := fun k hk hk2 => by subst hos; simp
  refine ⟨az, os, lA, lO, a3, a4, a7, a8, ?_, ?_, ?_⟩
  · unfold partsT insT
    rw [List.map_append, List.map_flatMap]
    congr 1
    · apply List.ext_getElem
      · rw [List.length_map, List.length_map, lA]
      · intro i h1 h2
        rw [List.length_map] at h1 h2
        rw [List.getElem_map, List.getElem_map, gA i h1 h2]
    · have key : os.map (fun o => (o.1 ++ [o.2]).map (·.1)) = T.objs.map fun o => o.fields ++ [o.rest] := by
        apply List.ext_getElem
        · rw [List.length_map, List.length_map, lO]
        · intro k h1 h2
          rw [List.length_map] at h1 h2
          rw [List.getElem_map, List.getElem_map, gO k h1 h2, List.map_append]
          congr 1
          apply List.ext_getElem
          · simp
          · intro j h3 h4
            simp
      rw [List.flatMap_def, List.flatMap_def, key]
  · intro x hx
    rcases List.mem_append.1 hx with hx | hx
    · obtain ⟨i, hi, rfl⟩ := List.getElem_of_mem hx
      rw [gA i hi (by omega)]
      exact (hcA i (by omega)).2.1
    · obtain ⟨p, hp, hx⟩ := List.mem_flatMap.1 hx
      obtain ⟨k, hk, rfl⟩ := List.getElem_of_mem hp
      rw [gO k hk (by omega)] at hx
      rcases List.mem_append.1 hx with hx | hx
      · obtain ⟨j, rfl⟩ := List.mem_ofFn.1 hx
        exact (hcO k (by omega)).2.2.1 j.1 j.2
      · obtain rfl := List.mem_singleton.1 hx
        exact (hcO k (by omega)).2.1
  · intro W B hb c7 c8
    refine ⟨by rw [lA]; exact c7, by rw [lO]; exact c8, fun i hi => ?_, fun k hk => ?_⟩
    · rw [gA i hi (by omega)]
      obtain ⟨b, off, mn, mx, e2, hl, x, y, z⟩ := (hcA i (by omega)).2.2
      exact ⟨b, off, mn, mx, e2, hl, x.keep hb hl, (hb.cell (p := ⟨_, _, _⟩) hl).trans y, (hb.cell (p := ⟨_, _, _⟩) hl).trans z⟩
    · obtain ⟨b, off, ko, nK, kc, fo, fc, mo, nM, mc, e2, hl, ⟨x, y, z⟩, r, l1, l2, hf⟩ := (hcO k (by omega)).2.2.2
      have hlen : os[k].1.length = T.objs[k].fields.length := by rw [gO k hk (by omega), List.length_ofFn]
      refine ⟨b, off, ko, nK, kc, fo, fc, mo, nM, mc, e2, hl, ⟨(hb.cell (p := ⟨_, _, _⟩) hl).trans x, by rw [hlen]; exact (hb.cell (p := ⟨_, _, _⟩) hl).trans y, (hb.cell (p := ⟨_, _, _⟩) hl).trans z⟩, ?_, by rw [hlen]; exact l1, by rw [hlen]; exact l2, fun j hj => ?_⟩
      · rw [gO k hk (by omega)]; exact r.keep hb hl
      · obtain ⟨b2, off2, e3, hl2, x2⟩ := hf j (by omega)
        have he : os[k].1[j].2 = (cO k).2 j := by
          have := gO k hk (by omega)
          simp only [this, List.getElem_ofFn]
        exact ⟨b2, off2, e3, hl2, by rw [he]; exact x2.keep hb hl2⟩

set_option maxRecDepth 100000 in
set_option maxHeartbeats 800000 in
theorem w_insideT (v : Value) (hv : ShT v) (w : World) :
    ∃ a : Array Value, v = .agg a ∧ Calls Tryz.prog 57 #[v] w fun en w' => en = .returned (.func (.func 80) #[] #[.pointer (some ⟨w.heap.size, 0, none⟩)]) ∧ w' = w.alloc (.cells a 29) := by
  obtain ⟨a, b, c, d, eo, en, ec, f, go, gn, gc, io, inn, ic, jo, jn, jc, rfl⟩ := hv
  refine ⟨_, rfl, ?_⟩
  go_enter Tryz.func57, Tryz.ntmps57
  go_wp2_with fail
  go_ret
  exact ⟨rfl, rfl⟩

theorem insideT_stops (n : Nat) (hn : 1 ≤ n) (n₀ B M : Nat) (ao : Option Addr) (ac : Nat) (oo : Option Addr) (oc : Nat) (az : List (TT × Value)) (os : List (List (TT × Value) × (TT × Value))) (hA : az.length ≤ ac) (hO : os.length ≤ oc) (hA2 : az.length ≤ 140737488355328) (hO2 : os.length ≤ 140737488355328) (hsh : ∀ x ∈ partsT az os, ShT x.2) (w : World) (hn0 : n₀ ≤ w.heap.size) (hM : M ≤ w.heap.size) (hS : InTS w n₀ B ao ac oo oc az os) :
    SeqStopsK Fence.wide n Tryz.prog 80 #[.pointer (some ⟨B, 0, none⟩)] (fun x : { x : TT × Value // x ∈ partsT az os } => #[x.1.2]) (KpT n₀ B M) (fun xs => xs.map (·.1) = partsT az os) (fun _ => True) (partsT az os).length w := by
  intro l J Jx W hW hJ hJx hY h0
  exact insideT_in n hn l n₀ B M ao ac oo oc az os hA hO hA2 hO2 hsh J Jx W (Nat.le_trans hn0 hW.size) (Nat.le_trans hM hW.size) (hS.keep (KpT.of_below (M := M) hn0 hW)) hJ hJx hY h0

/-- a part's own box -/
structure IB9 (W : World) (Bx : Nat) (v : Value) : Prop where
  row : ∃ a, v = .agg a ∧ W.heap[Bx]? = some (.cells a 29 (0, 0))
theorem ib9_own (m : Nat) (Bx : Nat) (v : Value) : OwnFrom m (fun (_ : Unit) W => IB9 W Bx v) := by
  intro _ A B row h hg hr
  obtain ⟨a, e, hrow⟩ := h.row
  refine ⟨a, e, ?_⟩
  rw [hg.block Bx (Array.getElem?_eq_some_iff.1 hrow).1 ?_]
  · exact hrow
  · intro e
    obtain ⟨_, o, ho, hc⟩ := hr Bx e.symm
    rw [hrow] at ho
    cases ho
    simp [Obj.isCells] at hc
theorem tkeepsFrom {m : Nat} {W W' : World} (h : Below W.heap.size W W') : KeepsFrom m W W' := ⟨h.size, fun k o _ hk _ => (h.block k (Array.getElem?_eq_some_iff.1 hk).1).trans hk⟩
theorem tboxed_low {W W' : World} {B : Nat} {t : TypeId} {v : Value} (h : Boxed W B t v) (hb : Below W.heap.size W W') : Boxed W' B t v := (hb.block B h.lt).trans h
end Go.Proofs.YtapjfocjeligiaaGreatDoor
namespace Go.Proofs.YtapjfocjeligiaaGreatDoor
open Go.RowKit Go.Shelf Go.Sort
set_option linter.unusedVariables false
set_option linter.unusedSimpArgs false
attribute [local go_sem] Oper.semAt_some

theorem w_bit0 (w : World) : Calls Tryz.prog 59 #[.int .i64 0] w fun e w' => e = .returned (.int .u8 1) ∧ w' = w := by
  go_enter Tryz.func59, Tryz.ntmps59
  go_wp2_with fail
  go_ret
  exact ⟨by first | rfl | decide, rfl⟩

section
variable (b0 b1 b2 b3 : Bool) (no : Option Addr) (nn nc : Nat) (b5 : Bool) (xo : Option Addr) (nx xc : Nat) (ao : Option Addr) (NA ac : Nat) (oo : Option Addr) (NO oc : Nat) (w : World) (B : Nat)

theorem w_hasNull (hx : AskBx w B b0 b1 b2 b3 no nn nc b5 xo nx xc ao NA ac oo NO oc) : Calls Tryz.prog 81 #[.pointer (some ⟨B, 0, none⟩)] w fun e w' => e = .returned (.bool b1) ∧ w' = w := by
  obtain ⟨q0, q1, q2, q3, q4, q5, q6, q7, q8⟩ := hx.nine
  simp only [Nat.zero_add] at q1 q2 q3 q4 q5 q6 q7 q8
  go_enter Tryz.func81, Tryz.ntmps81
  go_wp2_with fail
  go_ret
  exact ⟨rfl, rfl⟩
theorem w_hasFalse (hx : AskBx w B b0 b1 b2 b3 no nn nc b5 xo nx xc ao NA ac oo NO oc) : Calls Tryz.prog 82 #[.pointer (some ⟨B, 0, none⟩)] w fun e w' => e = .returned (.bool b2) ∧ w' = w := by
  obtain ⟨q0, q1, q2, q3, q4, q5, q6, q7, q8⟩ := hx.nine
  simp only [Nat.zero_add] at q1 q2 q3 q4 q5 q6 q7 q8
  go_enter Tryz.func82, Tryz.ntmps82
  go_wp2_with fail
  go_ret
  exact ⟨rfl, rfl⟩
theorem w_hasTrue (hx : AskBx w B b0 b1 b2 b3 no nn nc b5 xo nx xc ao NA ac oo NO oc) : Calls Tryz.prog 83 #[.pointer (some ⟨B, 0, none⟩)] w fun e w' => e = .returned (.bool b3) ∧ w' = w := by
  obtain ⟨q0, q1, q2, q3, q4, q5, q6, q7, q8⟩ := hx.nine
  simp only [Nat.zero_add] at q1 q2 q3 q4 q5 q6 q7 q8
  go_enter Tryz.func83, Tryz.ntmps83
  go_wp2_with fail
  go_ret
  exact ⟨rfl, rfl⟩
theorem gt0_dec (n : Nat) : decide (0 < (n : Int)) = decide (0 < n) := decide_eq_decide.2 (by omega)
theorem w_hasNumbers (hx : AskBx w B b0 b1 b2 b3 no nn nc b5 xo nx xc ao NA ac oo NO oc) (h1 : nn ≤ 140737488355328) : Calls Tryz.prog 84 #[.pointer (some ⟨B, 0, none⟩)] w fun e w' => e = .returned (.bool (decide (0 < nn))) ∧ w' = w := by
  obtain ⟨q0, q1, q2, q3, q4, q5, q6, q7, q8⟩ := hx.nine
  simp only [Nat.zero_add] at q1 q2 q3 q4 q5 q6 q7 q8
  have HE := Hid.mk (gt0_dec nn)
  go_enter Tryz.func84, Tryz.ntmps84
  go_wp2_with fail
  go_ret
  exact ⟨by first | (rw [← HE.out]; rfl) | (rw [← HE.out]; simp), rfl⟩
theorem w_hasArrays (hx : AskBx w B b0 b1 b2 b3 no nn nc b5 xo nx xc ao NA ac oo NO oc) (h1 : NA ≤ 140737488355328) : Calls Tryz.prog 86 #[.pointer (some ⟨B, 0, none⟩)] w fun e w' => e = .returned (.bool (decide (0 < NA))) ∧ w' = w := by
  obtain ⟨q0, q1, q2, q3, q4, q5, q6, q7, q8⟩ := hx.nine
  simp only [Nat.zero_add] at q1 q2 q3 q4 q5 q6 q7 q8
  have HE := Hid.mk (gt0_dec NA)
  go_enter Tryz.func86, Tryz.ntmps86
  go_wp2_with fail
  go_ret
  exact ⟨by first | (rw [← HE.out]; rfl) | (rw [← HE.out]; simp), rfl⟩
theorem w_hasObjects (hx : AskBx w B b0 b1 b2 b3 no nn nc b5 xo nx xc ao NA ac oo NO oc) (h1 : NO ≤ 140737488355328) : Calls Tryz.prog 87 #[.pointer (some ⟨B, 0, none⟩)] w fun e w' => e = .returned (.bool (decide (0 < NO))) ∧ w' = w := by
  obtain ⟨q0, q1, q2, q3, q4, q5, q6, q7, q8⟩ := hx.nine
  simp only [Nat.zero_add] at q1 q2 q3 q4 q5 q6 q7 q8
  have HE := Hid.mk (gt0_dec NO)
  go_enter Tryz.func87, Tryz.ntmps87
  go_wp2_with fail
  go_ret
  exact ⟨by first | (rw [← HE.out]; rfl) | (rw [← HE.out]; simp), rfl⟩
theorem w_hasTexts (hx : AskBx w B b0 b1 b2 b3 no nn nc b5 xo nx xc ao NA ac oo NO oc) (h1 : nx ≤ 140737488355328) : Calls Tryz.prog 85 #[.pointer (some ⟨B, 0, none⟩)] w fun e w' => e = .returned (.bool (b5 || decide (0 < nx))) ∧ w' = w := by
  obtain ⟨q0, q1, q2, q3, q4, q5, q6, q7, q8⟩ := hx.nine
  simp only [Nat.zero_add] at q1 q2 q3 q4 q5 q6 q7 q8
  have HE := Hid.mk (gt0_dec nx)
  cases b5
  · go_enter Tryz.func85, Tryz.ntmps85
    go_wp2_with fail
    go_ret
    exact ⟨by first | (rw [← HE.out]; rfl) | (rw [← HE.out]; simp), rfl⟩
  · go_enter Tryz.func85, Tryz.ntmps85
    go_wp2_with fail
    go_ret
    exact ⟨by first | rfl | simp, rfl⟩
end
end Go.Proofs.YtapjfocjeligiaaGreatDoor
namespace Go.Proofs.YtapjfocjeligiaaGreatDoor
open Go.RowKit Go.Shelf Go.Sort
set_option linter.unusedVariables false
set_option linter.unusedSimpArgs false
attribute [local go_sem] Oper.semAt_some

theorem w_bitn0 (w : World) : Calls Tryz.prog 59 #[.int .i64 0] w fun e w' => e = .returned (.int .u8 1) ∧ w' = w := by
  go_enter Tryz.func59, Tryz.ntmps59
  go_wp2_with fail
  go_ret
  exact ⟨by first | rfl | decide, rfl⟩
theorem w_bitn1 (w : World) : Calls Tryz.prog 59 #[.int .i64 1] w fun e w' => e = .returned (.int .u8 2) ∧ w' = w := by
  go_enter Tryz.func59, Tryz.ntmps59
  go_wp2_with fail
  go_ret
  exact ⟨by first | rfl | decide, rfl⟩
theorem w_bitn2 (w : World) : Calls Tryz.prog 59 #[.int .i64 2] w fun e w' => e = .returned (.int .u8 4) ∧ w' = w := by
  go_enter Tryz.func59, Tryz.ntmps59
  go_wp2_with fail
  go_ret
  exact ⟨by first | rfl | decide, rfl⟩
theorem w_bitn3 (w : World) : Calls Tryz.prog 59 #[.int .i64 3] w fun e w' => e = .returned (.int .u8 8) ∧ w' = w := by
  go_enter Tryz.func59, Tryz.ntmps59
  go_wp2_with fail
  go_ret
  exact ⟨by first | rfl | decide, rfl⟩
theorem w_bitn4 (w : World) : Calls Tryz.prog 59 #[.int .i64 4] w fun e w' => e = .returned (.int .u8 16) ∧ w' = w := by
  go_enter Tryz.func59, Tryz.ntmps59
  go_wp2_with fail
  go_ret
  exact ⟨by first | rfl | decide, rfl⟩
theorem w_bitn5 (w : World) : Calls Tryz.prog 59 #[.int .i64 5] w fun e w' => e = .returned (.int .u8 32) ∧ w' = w := by
  go_enter Tryz.func59, Tryz.ntmps59
  go_wp2_with fail
  go_ret
  exact ⟨by first | rfl | decide, rfl⟩
theorem w_bitn6 (w : World) : Calls Tryz.prog 59 #[.int .i64 6] w fun e w' => e = .returned (.int .u8 64) ∧ w' = w := by
  go_enter Tryz.func59, Tryz.ntmps59
  go_wp2_with fail
  go_ret
  exact ⟨by first | rfl | decide, rfl⟩

set_option maxRecDepth 100000 in
theorem has_ix0 (B : Nat) (u : World) : (Instr.index 95 (.agg #[.func (.func 81) #[.pointer (some ⟨B, 0, none⟩)] #[], .func (.func 82) #[.pointer (some ⟨B, 0, none⟩)] #[], .func (.func 83) #[.pointer (some ⟨B, 0, none⟩)] #[], .func (.func 84) #[.pointer (some ⟨B, 0, none⟩)] #[], .func (.func 85) #[.pointer (some ⟨B, 0, none⟩)] #[], .func (.func 86) #[.pointer (some ⟨B, 0, none⟩)] #[], .func (.func 87) #[.pointer (some ⟨B, 0, none⟩)] #[]]) (.int .i64 0)).run Tryz.prog u = .ok (.func (.func 81) #[.pointer (some ⟨B, 0, none⟩)] #[]) u := by kernel_rfl
set_option maxRecDepth 100000 in
theorem has_ix1 (B : Nat) (u : World) : (Instr.index 95 (.agg #[.func (.func 81) #[.pointer (some ⟨B, 0, none⟩)] #[], .func (.func 82) #[.pointer (some ⟨B, 0, none⟩)] #[], .func (.func 83) #[.pointer (some ⟨B, 0, none⟩)] #[], .func (.func 84) #[.pointer (some ⟨B, 0, none⟩)] #[], .func (.func 85) #[.pointer (some ⟨B, 0, none⟩)] #[], .func (.func 86) #[.pointer (some ⟨B, 0, none⟩)] #[], .func (.func 87) #[.pointer (some ⟨B, 0, none⟩)] #[]]) (.int .i64 1)).run Tryz.prog u = .ok (.func (.func 82) #[.pointer (some ⟨B, 0, none⟩)] #[]) u := by kernel_rfl
set_option maxRecDepth 100000 in
theorem has_ix2 (B : Nat) (u : World) : (Instr.index 95 (.agg #[.func (.func 81) #[.pointer (some ⟨B, 0, none⟩)] #[], .func (.func 82) #[.pointer (some ⟨B, 0, none⟩)] #[], .func (.func 83) #[.pointer (some ⟨B, 0, none⟩)] #[], .func (.func 84) #[.pointer (some ⟨B, 0, none⟩)] #[], .func (.func 85) #[.pointer (some ⟨B, 0, none⟩)] #[], .func (.func 86) #[.pointer (some ⟨B, 0, none⟩)] #[], .func (.func 87) #[.pointer (some ⟨B, 0, none⟩)] #[]]) (.int .i64 2)).run Tryz.prog u = .ok (.func (.func 83) #[.pointer (some ⟨B, 0, none⟩)] #[]) u := by kernel_rfl
set_option maxRecDepth 100000 in
theorem has_ix3 (B : Nat) (u : World) : (Instr.index 95 (.agg #[.func (.func 81) #[.pointer (some ⟨B, 0, none⟩)] #[], .func (.func 82) #[.pointer (some ⟨B, 0, none⟩)] #[], .func (.func 83) #[.pointer (some ⟨B, 0, none⟩)] #[], .func (.func 84) #[.pointer (some ⟨B, 0, none⟩)] #[], .func (.func 85) #[.pointer (some ⟨B, 0, none⟩)] #[], .func (.func 86) #[.pointer (some ⟨B, 0, none⟩)] #[], .func (.func 87) #[.pointer (some ⟨B, 0, none⟩)] #[]]) (.int .i64 3)).run Tryz.prog u = .ok (.func (.func 84) #[.pointer (some ⟨B, 0, none⟩)] #[]) u := by kernel_rfl
set_option maxRecDepth 100000 in
theorem has_ix4 (B : Nat) (u : World) : (Instr.index 95 (.agg #[.func (.func 81) #[.pointer (some ⟨B, 0, none⟩)] #[], .func (.func 82) #[.pointer (some ⟨B, 0, none⟩)] #[], .func (.func 83) #[.pointer (some ⟨B, 0, none⟩)] #[], .func (.func 84) #[.pointer (some ⟨B, 0, none⟩)] #[], .func (.func 85) #[.pointer (some ⟨B, 0, none⟩)] #[], .func (.func 86) #[.pointer (some ⟨B, 0, none⟩)] #[], .func (.func 87) #[.pointer (some ⟨B, 0, none⟩)] #[]]) (.int .i64 4)).run Tryz.prog u = .ok (.func (.func 85) #[.pointer (some ⟨B, 0, none⟩)] #[]) u := by kernel_rfl
set_option maxRecDepth 100000 in
theorem has_ix5 (B : Nat) (u : World) : (Instr.index 95 (.agg #[.func (.func 81) #[.pointer (some ⟨B, 0, none⟩)] #[], .func (.func 82) #[.pointer (some ⟨B, 0, none⟩)] #[], .func (.func 83) #[.pointer (some ⟨B, 0, none⟩)] #[], .func (.func 84) #[.pointer (some ⟨B, 0, none⟩)] #[], .func (.func 85) #[.pointer (some ⟨B, 0, none⟩)] #[], .func (.func 86) #[.pointer (some ⟨B, 0, none⟩)] #[], .func (.func 87) #[.pointer (some ⟨B, 0, none⟩)] #[]]) (.int .i64 5)).run Tryz.prog u = .ok (.func (.func 86) #[.pointer (some ⟨B, 0, none⟩)] #[]) u := by kernel_rfl
set_option maxRecDepth 100000 in
theorem has_ix6 (B : Nat) (u : World) : (Instr.index 95 (.agg #[.func (.func 81) #[.pointer (some ⟨B, 0, none⟩)] #[], .func (.func 82) #[.pointer (some ⟨B, 0, none⟩)] #[], .func (.func 83) #[.pointer (some ⟨B, 0, none⟩)] #[], .func (.func 84) #[.pointer (some ⟨B, 0, none⟩)] #[], .func (.func 85) #[.pointer (some ⟨B, 0, none⟩)] #[], .func (.func 86) #[.pointer (some ⟨B, 0, none⟩)] #[], .func (.func 87) #[.pointer (some ⟨B, 0, none⟩)] #[]]) (.int .i64 6)).run Tryz.prog u = .ok (.func (.func 87) #[.pointer (some ⟨B, 0, none⟩)] #[]) u := by kernel_rfl
set_option maxRecDepth 100000 in
set_option maxHeartbeats 1600000 in
theorem w_has (B : Nat) (w : World) : Calls Tryz.prog 58 #[.pointer (some ⟨B, 0, none⟩)] w fun e w' => e = .returned (.agg #[.func (.func 81) #[.pointer (some ⟨B, 0, none⟩)] #[], .func (.func 82) #[.pointer (some ⟨B, 0, none⟩)] #[], .func (.func 83) #[.pointer (some ⟨B, 0, none⟩)] #[], .func (.func 84) #[.pointer (some ⟨B, 0, none⟩)] #[], .func (.func 85) #[.pointer (some ⟨B, 0, none⟩)] #[], .func (.func 86) #[.pointer (some ⟨B, 0, none⟩)] #[], .func (.func 87) #[.pointer (some ⟨B, 0, none⟩)] #[]]) ∧ Below w.heap.size w w' := by
  have HB := Hid.mk (below1 w (.cells #[.func (.func 81) #[.pointer (some ⟨B, 0, none⟩)] #[], .func (.func 82) #[.pointer (some ⟨B, 0, none⟩)] #[], .func (.func 83) #[.pointer (some ⟨B, 0, none⟩)] #[], .func (.func 84) #[.pointer (some ⟨B, 0, none⟩)] #[], .func (.func 85) #[.pointer (some ⟨B, 0, none⟩)] #[], .func (.func 86) #[.pointer (some ⟨B, 0, none⟩)] #[], .func (.func 87) #[.pointer (some ⟨B, 0, none⟩)] #[]] 95))
  go_enter Tryz.func58, Tryz.ntmps58
  go_wp2_with fail
  (try simp only [Exit.inBlock, Exit.then])
  refine bodyPost_ret (v := .agg #[.func (.func 81) #[.pointer (some ⟨B, 0, none⟩)] #[], .func (.func 82) #[.pointer (some ⟨B, 0, none⟩)] #[], .func (.func 83) #[.pointer (some ⟨B, 0, none⟩)] #[], .func (.func 84) #[.pointer (some ⟨B, 0, none⟩)] #[], .func (.func 85) #[.pointer (some ⟨B, 0, none⟩)] #[], .func (.func 86) #[.pointer (some ⟨B, 0, none⟩)] #[], .func (.func 87) #[.pointer (some ⟨B, 0, none⟩)] #[]]) (by simp [results, Tryz.results58, go_sem]) rfl ?_
  exact ⟨rfl, HB.out⟩

set_option maxRecDepth 100000 in
theorem or_ok0 : ∀ (r : Fin 128), 0 < bits .or .u8 (r.1 : Int) 1 ∧ bits .or .u8 (r.1 : Int) 1 ≤ 127 := by decide +kernel
set_option maxRecDepth 100000 in
theorem or_ok1 : ∀ (r : Fin 128), 0 < bits .or .u8 (r.1 : Int) 2 ∧ bits .or .u8 (r.1 : Int) 2 ≤ 127 := by decide +kernel
set_option maxRecDepth 100000 in
theorem or_ok2 : ∀ (r : Fin 128), 0 < bits .or .u8 (r.1 : Int) 4 ∧ bits .or .u8 (r.1 : Int) 4 ≤ 127 := by decide +kernel
set_option maxRecDepth 100000 in
theorem or_ok3 : ∀ (r : Fin 128), 0 < bits .or .u8 (r.1 : Int) 8 ∧ bits .or .u8 (r.1 : Int) 8 ≤ 127 := by decide +kernel
set_option maxRecDepth 100000 in
theorem or_ok4 : ∀ (r : Fin 128), 0 < bits .or .u8 (r.1 : Int) 16 ∧ bits .or .u8 (r.1 : Int) 16 ≤ 127 := by decide +kernel
set_option maxRecDepth 100000 in
theorem or_ok5 : ∀ (r : Fin 128), 0 < bits .or .u8 (r.1 : Int) 32 ∧ bits .or .u8 (r.1 : Int) 32 ≤ 127 := by decide +kernel
set_option maxRecDepth 100000 in
theorem or_ok6 : ∀ (r : Fin 128), 0 < bits .or .u8 (r.1 : Int) 64 ∧ bits .or .u8 (r.1 : Int) 64 ≤ 127 := by decide +kernel
set_option maxRecDepth 100000 in
set_option maxHeartbeats 6400000 in
theorem w_Kinds (b0 b1 b2 b3 : Bool) (no : Option Addr) (nn nc : Nat) (b5 : Bool) (xo : Option Addr) (nx xc : Nat) (ao : Option Addr) (NA ac : Nat) (oo : Option Addr) (NO oc : Nat) (w : World) (z1 : nn ≤ 140737488355328) (z2 : nx ≤ 140737488355328) (z3 : NA ≤ 140737488355328) (z4 : NO ≤ 140737488355328) :
    Calls Tryz.prog 35 #[.agg #[.bool b0, .bool b1, .bool b2, .bool b3, .slice no nn nc, .bool b5, .slice xo nx xc, .slice ao NA ac, .slice oo NO oc]] w fun e w' => (∃ r : Int, e = .returned (.int .u8 r) ∧ 0 ≤ r ∧ r ≤ 127 ∧ (r = 0 ↔ (!b0 && bareT b1 b2 b3 b5 nn nx NA NO) = true)) ∧ Below w.heap.size w w' := by
  have HX0 := Hid.mk (tbx_new w (.bool b0) (.bool b1) (.bool b2) (.bool b3) (.slice no nn nc) (.bool b5) (.slice xo nx xc) (.slice ao NA ac) (.slice oo NO oc))
  obtain ⟨W0, hW0⟩ : ∃ W0, w.alloc (.cells #[.bool b0, .bool b1, .bool b2, .bool b3, .slice no nn nc, .bool b5, .slice xo nx xc, .slice ao NA ac, .slice oo NO oc] 29) = W0 := ⟨_, rfl⟩
  have hs0 : W0.heap.size = w.heap.size + 1 := by rw [← hW0]; simp
  rw [hW0] at HX0
  obtain ⟨_, c0, c1, c2, c3, c4, c5, c6, c7, c8, _⟩ := HX0.out
  cases b0 with
  | true =>
    go_enter Tryz.func35, Tryz.ntmps35
    go_wp2_with fail
    go_ret
    exact ⟨⟨127, rfl, by omega, by omega, by simp⟩, HX0.out.below⟩
  | false =>
    obtain ⟨W1, hW1⟩ : ∃ W1, W0.alloc (.cells #[.bool false, .bool b1, .bool b2, .bool b3, .slice no nn nc, .bool b5, .slice xo nx xc, .slice ao NA ac, .slice oo NO oc] 89) = W1 := ⟨_, rfl⟩
    have HA : Hid (AskBx W1 (w.heap.size + 1) false b1 b2 b3 no nn nc b5 xo nx xc ao NA ac oo NO oc) := by
      rw [← hW1, ← hs0]
      exact ⟨⟨by simp [go_sem], by simp [go_sem], by simp [go_sem], by simp [go_sem], by simp [go_sem], by simp [go_sem], by simp [go_sem], by simp [go_sem], by simp [go_sem]⟩, by simp⟩
    have HB1 : Hid (Below w.heap.size w W1) := by rw [← hW1]; exact HX0.out.below.trans ((below1 W0 _).mono HX0.out.below.size)
    go_enter Tryz.func35, Tryz.ntmps35
    go_wp2_with fail
    refine (w_has _ _).mono ?_
    rintro e w2 ⟨rfl, hq⟩
    have HA2 := Hid.mk (HA.out.keep hq)
    have HB2 := Hid.mk (HB1.out.trans (hq.mono HB1.out.size))
    clear hq hW1 hW0 hs0 c0 c1 c2 c3 c4 c5 c6 c7 c8
    have C0 := Hid.mk (w_hasNull false b1 b2 b3 no nn nc b5 xo nx xc ao NA ac oo NO oc w2 (w.heap.size + 1) HA2.out)
    have C1 := Hid.mk (w_hasFalse false b1 b2 b3 no nn nc b5 xo nx xc ao NA ac oo NO oc w2 (w.heap.size + 1) HA2.out)
    have C2 := Hid.mk (w_hasTrue false b1 b2 b3 no nn nc b5 xo nx xc ao NA ac oo NO oc w2 (w.heap.size + 1) HA2.out)
    have C3 := Hid.mk (w_hasNumbers false b1 b2 b3 no nn nc b5 xo nx xc ao NA ac oo NO oc w2 (w.heap.size + 1) HA2.out z1)
    have C4 := Hid.mk (w_hasTexts false b1 b2 b3 no nn nc b5 xo nx xc ao NA ac oo NO oc w2 (w.heap.size + 1) HA2.out z2)
    have C5 := Hid.mk (w_hasArrays false b1 b2 b3 no nn nc b5 xo nx xc ao NA ac oo NO oc w2 (w.heap.size + 1) HA2.out z3)
    have C6 := Hid.mk (w_hasObjects false b1 b2 b3 no nn nc b5 xo nx xc ao NA ac oo NO oc w2 (w.heap.size + 1) HA2.out z4)
    have HG : Hid ((!false && bareT b1 b2 b3 b5 nn nx NA NO) = [b1, b2, b3, (decide (0 < nn)), (b5 || decide (0 < nx)), (decide (0 < NA)), (decide (0 < NO))].all (fun b => !b)) := by
      show _ = _
      unfold bareT
      have e : ∀ n : Nat, (n == 0) = !decide (0 < n) := fun n => by cases n <;> simp
      simp only [e, List.all_cons, List.all_nil]
      cases b1 <;> cases b2 <;> cases b3 <;> cases b5 <;> simp
    generalize (decide (0 < nn)) = h3 at C3 HG
    generalize (b5 || decide (0 < nx)) = h4 at C4 HG
    generalize (decide (0 < NA)) = h5 at C5 HG
    generalize (decide (0 < NO)) = h6 at C6 HG
    go_wp2_with fail
    go_loopw [3, 11] (fun rv i wr => ∃ (k : Nat) (r : Int), k ≤ 7 ∧ rv = .int .u8 r ∧ i = .int .i64 (k : Int) ∧ 0 ≤ r ∧ r ≤ 127 ∧ wr = w2 ∧ Hid (r = 0 ↔ ([b1, b2, b3, h3, h4, h5, h6].take k).all (fun b => !b) = true)) (fun _ i _ => 7 - (intOf i).toNat)
    case atStart => exact ⟨0, 0, by omega, rfl, rfl, by omega, by omega, rfl, by show _ ↔ _; simp⟩
    case round =>
      obtain ⟨k, r, hk, rfl, rfl, hr0, hr1, rfl, HQ⟩ := hrel
      by_cases hlt : k < 7
      · have hor : k = 0 ∨ k = 1 ∨ k = 2 ∨ k = 3 ∨ k = 4 ∨ k = 5 ∨ k = 6 := by omega
        rcases hor with rfl | rfl | rfl | rfl | rfl | rfl | rfl
        · skip
          cases hh : b1 with
          | false =>
            have D := C0
            have ix := has_ix0 (w.heap.size + 1)
            rw [hh] at D
            go_wp2_with fail
            refine D.out.mono ?_
            rintro e v3 ⟨rfl, rfl⟩
            go_wp2_with fail
            go_roundw
            case rel => exact ⟨0 + 1, r, by omega, rfl, by go_num, hr0, hr1, by first | rfl | trivial, by have := HQ.out; show _ ↔ _; rw [this]; simp [hh]⟩
            case measure => simp [intOf]
          | true =>
            have D := C0
            have ix := has_ix0 (w.heap.size + 1)
            rw [hh] at D
            go_wp2_with fail
            refine D.out.mono ?_
            rintro e v3 ⟨rfl, rfl⟩
            go_wp2_with fail
            refine (w_bitn0 _).mono ?_
            rintro e v4 ⟨rfl, rfl⟩
            go_wp2_with fail
            have ho := or_ok0 ⟨r.toNat, by omega⟩
            have hrn : ((r.toNat : Nat) : Int) = r := by omega
            dsimp only at ho
            rw [hrn] at ho
            refine ⟨⟨0 + 1, bits .or .u8 r 1, by omega, rfl, by go_num, by omega, by omega, by first | rfl | trivial, ?_⟩, by simp [intOf]⟩
            show _ ↔ _
            constructor
            · intro h; omega
            · intro h; simp [hh] at h
        · skip
          cases hh : b2 with
          | false =>
            have D := C1
            have ix := has_ix1 (w.heap.size + 1)
            rw [hh] at D
            go_wp2_with fail
            refine D.out.mono ?_
            rintro e v3 ⟨rfl, rfl⟩
            go_wp2_with fail
            go_roundw
            case rel => exact ⟨1 + 1, r, by omega, rfl, by go_num, hr0, hr1, by first | rfl | trivial, by have := HQ.out; show _ ↔ _; rw [this]; simp [hh]⟩
            case measure => simp [intOf]
          | true =>
            have D := C1
            have ix := has_ix1 (w.heap.size + 1)
            rw [hh] at D
            go_wp2_with fail
            refine D.out.mono ?_
            rintro e v3 ⟨rfl, rfl⟩
            go_wp2_with fail
            refine (w_bitn1 _).mono ?_
            rintro e v4 ⟨rfl, rfl⟩
            go_wp2_with fail
            have ho := or_ok1 ⟨r.toNat, by omega⟩
            have hrn : ((r.toNat : Nat) : Int) = r := by omega
            dsimp only at ho
            rw [hrn] at ho
            refine ⟨⟨1 + 1, bits .or .u8 r 2, by omega, rfl, by go_num, by omega, by omega, by first | rfl | trivial, ?_⟩, by simp [intOf]⟩
            show _ ↔ _
            constructor
            · intro h; omega
            · intro h; simp [hh] at h
        · skip
          cases hh : b3 with
          | false =>
            have D := C2
            have ix := has_ix2 (w.heap.size + 1)
            rw [hh] at D
            go_wp2_with fail
            refine D.out.mono ?_
            rintro e v3 ⟨rfl, rfl⟩
            go_wp2_with fail
            go_roundw
            case rel => exact ⟨2 + 1, r, by omega, rfl, by go_num, hr0, hr1, by first | rfl | trivial, by have := HQ.out; show _ ↔ _; rw [this]; simp [hh]⟩
            case measure => simp [intOf]
          | true =>
            have D := C2
            have ix := has_ix2 (w.heap.size + 1)
            rw [hh] at D
            go_wp2_with fail
            refine D.out.mono ?_
            rintro e v3 ⟨rfl, rfl⟩
            go_wp2_with fail
            refine (w_bitn2 _).mono ?_
            rintro e v4 ⟨rfl, rfl⟩
            go_wp2_with fail
            have ho := or_ok2 ⟨r.toNat, by omega⟩
            have hrn : ((r.toNat : Nat) : Int) = r := by omega
            dsimp only at ho
            rw [hrn] at ho
            refine ⟨⟨2 + 1, bits .or .u8 r 4, by omega, rfl, by go_num, by omega, by omega, by first | rfl | trivial, ?_⟩, by simp [intOf]⟩
            show _ ↔ _
            constructor
            · intro h; omega
            · intro h; simp [hh] at h
        · skip
          cases hh : h3 with
          | false =>
            have D := C3
            have ix := has_ix3 (w.heap.size + 1)
            rw [hh] at D
            go_wp2_with fail
            refine D.out.mono ?_
            rintro e v3 ⟨rfl, rfl⟩
            go_wp2_with fail
            go_roundw
            case rel => exact ⟨3 + 1, r, by omega, rfl, by go_num, hr0, hr1, by first | rfl | trivial, by have := HQ.out; show _ ↔ _; rw [this]; simp [hh]⟩
            case measure => simp [intOf]
          | true =>
            have D := C3
            have ix := has_ix3 (w.heap.size + 1)
            rw [hh] at D
            go_wp2_with fail
            refine D.out.mono ?_
            rintro e v3 ⟨rfl, rfl⟩
            go_wp2_with fail
            refine (w_bitn3 _).mono ?_
            rintro e v4 ⟨rfl, rfl⟩
            go_wp2_with fail
            have ho := or_ok3 ⟨r.toNat, by omega⟩
            have hrn : ((r.toNat : Nat) : Int) = r := by omega
            dsimp only at ho
            rw [hrn] at ho
            refine ⟨⟨3 + 1, bits .or .u8 r 8, by omega, rfl, by go_num, by omega, by omega, by first | rfl | trivial, ?_⟩, by simp [intOf]⟩
            show _ ↔ _
            constructor
            · intro h; omega
            · intro h; simp [hh] at h
        · skip
          cases hh : h4 with
          | false =>
            have D := C4
            have ix := has_ix4 (w.heap.size + 1)
            rw [hh] at D
            go_wp2_with fail
            refine D.out.mono ?_
            rintro e v3 ⟨rfl, rfl⟩
            go_wp2_with fail
            go_roundw
            case rel => exact ⟨4 + 1, r, by omega, rfl, by go_num, hr0, hr1, by first | rfl | trivial, by have := HQ.out; show _ ↔ _; rw [this]; simp [hh]⟩
            case measure => simp [intOf]
          | true =>
            have D := C4
            have ix := has_ix4 (w.heap.size + 1)
            rw [hh] at D
            go_wp2_with fail
            refine D.out.mono ?_
            rintro e v3 ⟨rfl, rfl⟩
            go_wp2_with fail
            refine (w_bitn4 _).mono ?_
            rintro e v4 ⟨rfl, rfl⟩
            go_wp2_with fail
            have ho := or_ok4 ⟨r.toNat, by omega⟩
            have hrn : ((r.toNat : Nat) : Int) = r := by omega
            dsimp only at ho
            rw [hrn] at ho
            refine ⟨⟨4 + 1, bits .or .u8 r 16, by omega, rfl, by go_num, by omega, by omega, by first | rfl | trivial, ?_⟩, by simp [intOf]⟩
            show _ ↔ _
            constructor
            · intro h; omega
            · intro h; simp [hh] at h
        · skip
          cases hh : h5 with
          | false =>
            have D := C5
            have ix := has_ix5 (w.heap.size + 1)
            rw [hh] at D
            go_wp2_with fail
            refine D.out.mono ?_
            rintro e v3 ⟨rfl, rfl⟩
            go_wp2_with fail
            go_roundw
            case rel => exact ⟨5 + 1, r, by omega, rfl, by go_num, hr0, hr1, by first | rfl | trivial, by have := HQ.out; show _ ↔ _; rw [this]; simp [hh]⟩
            case measure => simp [intOf]
          | true =>
            have D := C5
            have ix := has_ix5 (w.heap.size + 1)
            rw [hh] at D
            go_wp2_with fail
            refine D.out.mono ?_
            rintro e v3 ⟨rfl, rfl⟩
            go_wp2_with fail
            refine (w_bitn5 _).mono ?_
            rintro e v4 ⟨rfl, rfl⟩
            go_wp2_with fail
            have ho := or_ok5 ⟨r.toNat, by omega⟩
            have hrn : ((r.toNat : Nat) : Int) = r := by omega
            dsimp only at ho
            rw [hrn] at ho
            refine ⟨⟨5 + 1, bits .or .u8 r 32, by omega, rfl, by go_num, by omega, by omega, by first | rfl | trivial, ?_⟩, by simp [intOf]⟩
            show _ ↔ _
            constructor
            · intro h; omega
            · intro h; simp [hh] at h
        · skip
          cases hh : h6 with
          | false =>
            have D := C6
            have ix := has_ix6 (w.heap.size + 1)
            rw [hh] at D
            go_wp2_with fail
            refine D.out.mono ?_
            rintro e v3 ⟨rfl, rfl⟩
            go_wp2_with fail
            go_roundw
            case rel => exact ⟨6 + 1, r, by omega, rfl, by go_num, hr0, hr1, by first | rfl | trivial, by have := HQ.out; show _ ↔ _; rw [this]; simp [hh]⟩
            case measure => simp [intOf]
          | true =>
            have D := C6
            have ix := has_ix6 (w.heap.size + 1)
            rw [hh] at D
            go_wp2_with fail
            refine D.out.mono ?_
            rintro e v3 ⟨rfl, rfl⟩
            go_wp2_with fail
            refine (w_bitn6 _).mono ?_
            rintro e v4 ⟨rfl, rfl⟩
            go_wp2_with fail
            have ho := or_ok6 ⟨r.toNat, by omega⟩
            have hrn : ((r.toNat : Nat) : Int) = r := by omega
            dsimp only at ho
            rw [hrn] at ho
            refine ⟨⟨6 + 1, bits .or .u8 r 64, by omega, rfl, by go_num, by omega, by omega, by first | rfl | trivial, ?_⟩, by simp [intOf]⟩
            show _ ↔ _
            constructor
            · intro h; omega
            · intro h; simp [hh] at h
      · have hk7 : k = 7 := by omega
        subst hk7
        go_wp2_with fail
        go_ret
        exact ⟨⟨r, rfl, hr0, hr1, by rw [HG.out]; exact HQ.out⟩, HB2.out⟩

set_option maxRecDepth 100000 in
set_option maxHeartbeats 1600000 in
theorem never_p (b0 b1 b2 b3 : Bool) (no : Option Addr) (nn nc : Nat) (b5 : Bool) (xo : Option Addr) (nx xc : Nat) (ao : Option Addr) (NA ac : Nat) (oo : Option Addr) (NO oc : Nat) (w : World) (z1 : nn ≤ 140737488355328) (z2 : nx ≤ 140737488355328) (z3 : NA ≤ 140737488355328) (z4 : NO ≤ 140737488355328) :
    Calls Tryz.prog 100 #[.agg #[.bool b0, .bool b1, .bool b2, .bool b3, .slice no nn nc, .bool b5, .slice xo nx xc, .slice ao NA ac, .slice oo NO oc]] w fun e w' => e = .returned (.bool (!b0 && bareT b1 b2 b3 b5 nn nx NA NO)) ∧ Below w.heap.size w w' := by
  have HC := Hid.mk (fun u => w_Kinds b0 b1 b2 b3 no nn nc b5 xo nx xc ao NA ac oo NO oc u z1 z2 z3 z4)
  generalize (!b0 && bareT b1 b2 b3 b5 nn nx NA NO) = G at HC ⊢
  have HX0 := Hid.mk (tbx_new w (.bool b0) (.bool b1) (.bool b2) (.bool b3) (.slice no nn nc) (.bool b5) (.slice xo nx xc) (.slice ao NA ac) (.slice oo NO oc))
  obtain ⟨W0, hW0⟩ : ∃ W0, w.alloc (.cells #[.bool b0, .bool b1, .bool b2, .bool b3, .slice no nn nc, .bool b5, .slice xo nx xc, .slice ao NA ac, .slice oo NO oc] 29) = W0 := ⟨_, rfl⟩
  rw [hW0] at HX0
  obtain ⟨_, c0, c1, c2, c3, c4, c5, c6, c7, c8, _⟩ := HX0.out
  go_enter Tryz.func100, Tryz.ntmps100
  go_wp2_with fail
  refine (HC.out _).mono ?_
  rintro e w1 ⟨⟨r, rfl, hr0, hr1, hr⟩, hb1⟩
  have HX1 := Hid.mk (HX0.out.keep hb1)
  clear hb1 c0 c1 c2 c3 c4 c5 c6 c7 c8 hW0 HX0
  by_cases h0 : r = 0
  · have hG := hr.1 h0
    subst h0 hG
    go_wp2_with fail
    go_ret
    exact ⟨by first | rfl | simp, HX1.out.below⟩
  · have hG : G = false := by cases G with | false => rfl | true => exact absurd (hr.2 rfl) h0
    subst hG
    have h0b : (r == 0) = false := by simpa using h0
    clear hr
    go_wp2_with fail
    go_ret
    exact ⟨by first | rfl | simp [h0] | simp [h0b], HX1.out.below⟩
theorem w_pNever (h : Nat) (T : TT) (v : Value) (w : World) (hI : InT w h T v) : Calls Tryz.prog 100 #[v] w fun e w' => e = .returned (.bool T.never) ∧ Below w.heap.size w w' := by
  cases h with
  | zero => exact hI.elim
  | succ h =>
    obtain ⟨no, nc, xo, xc, ao, ac, oo, oc, rfl, _, ⟨a5, a6, a7, a8⟩, _⟩ := hI
    exact never_p _ _ _ _ _ _ _ _ _ _ _ _ _ _ _ _ _ w a5 a6 a7 a8
end Go.Proofs.YtapjfocjeligiaaGreatDoor
