import Derived.Test.YthcohnnikmpjkaaGreatZTYb
import Derived.Test.YthcohnnikmpjkaaGreatM15
import Derived.RangeFuncNested
import Derived.RangeFuncBound
import Derived.RangeFuncCalls
import Derived.RangeFuncLeaves
import Derived.RangeFuncBox
import Derived.Shelf.Abstract
import Derived.Shelf.RegionOpen
import Derived.OwnWalkIn
import Derived.TacticsInMore
import Derived.LoopNIn
import Derived.LoopIn
namespace Go.Proofs.YthcohnnikmpjkaaGreat
open Go.RowKit Go.Shelf
set_option linter.unusedVariables false
set_option linter.unusedSimpArgs false
attribute [local go_sem] Oper.semAt_some

/-- what a round keeps: all that lay below n₀, the box B, and all boxes from M on -/
structure KpT (n₀ B M : Nat) (W W' : World) : Prop where
  below : Below n₀ W W'
  box : ∀ b j v, (b = B ∨ M ≤ b) → W.cell? ⟨b, j, none⟩ = some v → W'.cell? ⟨b, j, none⟩ = some v
theorem KpT.trans {n₀ B M : Nat} {X Y Z : World} (h : KpT n₀ B M X Y) (k : KpT n₀ B M Y Z) : KpT n₀ B M X Z := ⟨h.below.trans k.below, fun b j v hb hv => k.box b j v hb (h.box b j v hb hv)⟩
theorem KpT.put {n₀ B M : Nat} {w : World} (hm : n₀ ≤ w.heap.size) (W : World) (l : Nat) (o o' : Obj) (hl : w.heap.size ≤ l) (h : W.heap[l]? = some o) (hc : o.isCells = false) (hw : o.isWalk = false) : KpT n₀ B M W (W.putObj l o') := by
  refine ⟨belowK_b (w := w) hm W l o o' hl h hc hw, fun b j v _ hv => ?_⟩
  have hne : b ≠ l := by
    rintro rfl
    unfold World.cell? at hv
    simp only [h] at hv
    cases o <;> simp_all [Obj.isCells]
  unfold World.cell? at hv ⊢
  rw [show (W.putObj l o').heap[b]? = W.heap[b]? from by simp [World.putObj, Array.getElem?_setIfInBounds, Ne.symm hne]]
  exact hv
theorem KpT.of_below {n₀ B M : Nat} {W W' : World} (hn : n₀ ≤ W.heap.size) (hb : Below W.heap.size W W') : KpT n₀ B M W W' :=
  ⟨hb.mono hn, fun b j v _ hv => (hb.cell (p := ⟨b, j, none⟩) (World.block_lt_of_cell? W _ hv)).trans hv⟩
theorem KpT.setO {n₀ B M : Nat} {W : World} {C : Nat} (hn : n₀ ≤ C) (h1 : B ≠ C) (h2 : C < M) (v : Value) : KpT n₀ B M W (W.setCell ⟨C, 0, none⟩ v) :=
  ⟨(Below.refl _ W).setCell (p := ⟨C, 0, none⟩) hn _, fun b j u hb hu => (World.cell?_setCell_other (w := W) (v := v) (a := ⟨C, 0, none⟩) (b := ⟨b, j, none⟩) (fun e => by cases e; omega)).trans hu⟩

/-- a type's value, cell by cell -/
def NineAt (W : World) (b o : Nat) (v : Value) : Prop := ∃ c0 c1 c2 c3 c4 c5 c6 c7 c8 : Value, v = .agg #[c0, c1, c2, c3, c4, c5, c6, c7, c8] ∧ C9 W b o c0 c1 c2 c3 c4 c5 c6 c7 c8
theorem NineAt.keep {W W' : World} {n b o : Nat} {v : Value} (h : NineAt W b o v) (hb : Below n W W') (hl : b < n) : NineAt W' b o v := by
  obtain ⟨c0, c1, c2, c3, c4, c5, c6, c7, c8, e, x⟩ := h
  exact ⟨c0, c1, c2, c3, c4, c5, c6, c7, c8, e, (hb.cell (p := ⟨_, _, _⟩) hl).trans x.c0, (hb.cell (p := ⟨_, _, _⟩) hl).trans x.c1, (hb.cell (p := ⟨_, _, _⟩) hl).trans x.c2, (hb.cell (p := ⟨_, _, _⟩) hl).trans x.c3, (hb.cell (p := ⟨_, _, _⟩) hl).trans x.c4, (hb.cell (p := ⟨_, _, _⟩) hl).trans x.c5, (hb.cell (p := ⟨_, _, _⟩) hl).trans x.c6, (hb.cell (p := ⟨_, _, _⟩) hl).trans x.c7, (hb.cell (p := ⟨_, _, _⟩) hl).trans x.c8⟩
/-- a type's value: one cell each -/
def ShT (v : Value) : Prop := ∃ (a b c d : Bool) (eo : Option Addr) (en ec : Nat) (f : Bool) (go : Option Addr) (gn gc : Nat) (io : Option Addr) (inn ic : Nat) (jo : Option Addr) (jn jc : Nat), v = .agg #[.bool a, .bool b, .bool c, .bool d, .slice eo en ec, .bool f, .slice go gn gc, .slice io inn ic, .slice jo jn jc]
theorem sh_of {W : World} {h : Nat} {T : TT} {v : Value} (hI : InT W h T v) : ShT v := by
  obtain ⟨a, b, c, d, ⟨eo, en, ec⟩, f, ⟨go, gn, gc⟩, ⟨io, inn, ic⟩, ⟨jo, jn, jc⟩, e⟩ := inT_shape hI
  exact ⟨a, b, c, d, eo, en, ec, f, go, gn, gc, io, inn, ic, jo, jn, jc, e⟩
/-- all the types that lie in one, in their order -/
def partsT (az : List (TT × Value)) (os : List (List (TT × Value) × (TT × Value))) : List (TT × Value) := az ++ os.flatMap fun o => o.1 ++ [o.2]
theorem parts_a {az : List (TT × Value)} {os : List (List (TT × Value) × (TT × Value))} {k : Nat} (h : k < az.length) : az[k] ∈ partsT az os := List.mem_append.2 (.inl (List.getElem_mem h))
theorem parts_f {az : List (TT × Value)} {os : List (List (TT × Value) × (TT × Value))} {k j : Nat} (h : k < os.length) (hj : j < os[k].1.length) : os[k].1[j] ∈ partsT az os :=
  List.mem_append.2 (.inr (List.mem_flatMap.2 ⟨os[k], List.getElem_mem h, List.mem_append.2 (.inl (List.getElem_mem hj))⟩))
theorem parts_r {az : List (TT × Value)} {os : List (List (TT × Value) × (TT × Value))} {k : Nat} (h : k < os.length) : os[k].2 ∈ partsT az os :=
  List.mem_append.2 (.inr (List.mem_flatMap.2 ⟨os[k], List.getElem_mem h, List.mem_append.2 (.inr (by simp))⟩))
theorem parts_la {az : List (TT × Value)} {os : List (List (TT × Value) × (TT × Value))} : az.length ≤ (partsT az os).length := by unfold partsT; rw [List.length_append]; omega
theorem parts_split {az : List (TT × Value)} {os : List (List (TT × Value) × (TT × Value))} {k : Nat} (h : k < os.length) (j : Nat) : partsT az os = (az ++ (os.take k).flatMap (fun o => o.1 ++ [o.2]) ++ os[k].1.take j) ++ (os[k].1.drop j ++ ([os[k].2] ++ (os.drop (k + 1)).flatMap (fun o => o.1 ++ [o.2]))) := by
  unfold partsT
  conv => lhs; rw [← List.take_append_drop k os, List.drop_eq_getElem_cons h, List.flatMap_append, List.flatMap_cons]
  simp only [List.append_assoc]
  rw [← List.append_assoc (os[k].1.take j), List.take_append_drop]
theorem parts_up {az : List (TT × Value)} {os : List (List (TT × Value) × (TT × Value))} {k : Nat} (h : k < os.length) : az ++ (os.take (k + 1)).flatMap (fun o => o.1 ++ [o.2]) = (az ++ (os.take k).flatMap (fun o => o.1 ++ [o.2]) ++ os[k].1) ++ [os[k].2] := by
  rw [List.take_succ_eq_append_getElem h, List.flatMap_append]; simp
/-- what the iterator reads -/
structure InTS (W : World) (n₀ B : Nat) (ao : Option Addr) (ac : Nat) (oo : Option Addr) (oc : Nat) (az : List (TT × Value)) (os : List (List (TT × Value) × (TT × Value))) : Prop where
  c7 : W.cell? ⟨B, 7, none⟩ = some (.slice ao az.length ac)
  c8 : W.cell? ⟨B, 8, none⟩ = some (.slice oo os.length oc)
  arrs : ∀ i, (hi : i < az.length) → ∃ b off mn mx, ao = some ⟨b, off, none⟩ ∧ b < n₀ ∧ NineAt W b (off + i * 11) az[i].2 ∧ W.cell? ⟨b, off + i * 11 + 9, none⟩ = some (.int .i64 mn) ∧ W.cell? ⟨b, off + i * 11 + 10, none⟩ = some (.int .i64 mx)
  objs : ∀ k, (hk : k < os.length) → ∃ b off ko nK kc fo fc mo nM mc, oo = some ⟨b, off, none⟩ ∧ b < n₀ ∧ (W.cell? ⟨b, off + k * 12, none⟩ = some (.slice ko nK kc) ∧ W.cell? ⟨b, off + k * 12 + 1, none⟩ = some (.slice fo os[k].1.length fc) ∧ W.cell? ⟨b, off + k * 12 + 2, none⟩ = some (.slice mo nM mc)) ∧ NineAt W b (off + k * 12 + 3) os[k].2.2 ∧ os[k].1.length ≤ fc ∧ os[k].1.length ≤ 140737488355328 ∧
    ∀ j, (hj : j < os[k].1.length) → ∃ b2 off2, fo = some ⟨b2, off2, none⟩ ∧ b2 < n₀ ∧ NineAt W b2 (off2 + j * 9) os[k].1[j].2
theorem InTS.keep {W W' : World} {n₀ B M : Nat} {ao : Option Addr} {ac : Nat} {oo : Option Addr} {oc : Nat} {az : List (TT × Value)} {os : List (List (TT × Value) × (TT × Value))} (h : InTS W n₀ B ao ac oo oc az os) (hk : KpT n₀ B M W W') : InTS W' n₀ B ao ac oo oc az os := by
  refine ⟨hk.box _ _ _ (.inl rfl) h.c7, hk.box _ _ _ (.inl rfl) h.c8, fun i hi => ?_, fun k hk2 => ?_⟩
  · obtain ⟨b, off, mn, mx, e, hb, x, y, z⟩ := h.arrs i hi
    exact ⟨b, off, mn, mx, e, hb, x.keep hk.below hb, (hk.below.cell (p := ⟨_, _, _⟩) hb).trans y, (hk.below.cell (p := ⟨_, _, _⟩) hb).trans z⟩
  · obtain ⟨b, off, ko, nK, kc, fo, fc, mo, nM, mc, e, hb, ⟨x, y, z⟩, r, l1, l2, hf⟩ := h.objs k hk2
    refine ⟨b, off, ko, nK, kc, fo, fc, mo, nM, mc, e, hb, ⟨(hk.below.cell (p := ⟨_, _, _⟩) hb).trans x, (hk.below.cell (p := ⟨_, _, _⟩) hb).trans y, (hk.below.cell (p := ⟨_, _, _⟩) hb).trans z⟩, r.keep hk.below hb, l1, l2, fun j hj => ?_⟩
    obtain ⟨b2, off2, e2, hb2, x2⟩ := hf j hj
    exact ⟨b2, off2, e2, hb2, x2.keep hk.below hb2⟩

set_option maxRecDepth 100000 in
set_option maxHeartbeats 8000000 in
theorem insideT_in (n : Nat) (hn : 1 ≤ n) (l n₀ B M : Nat) (ao : Option Addr) (ac : Nat) (oo : Option Addr) (oc : Nat) (az : List (TT × Value)) (os : List (List (TT × Value) × (TT × Value))) (hA : az.length ≤ ac) (hO : os.length ≤ oc) (hA2 : az.length ≤ 140737488355328) (hO2 : os.length ≤ 140737488355328) (hsh : ∀ x ∈ partsT az os, ShT x.2)
    (J Jx : List { x : TT × Value // x ∈ partsT az os } → World → Prop) (W : World) (hn0 : n₀ ≤ W.heap.size) (hM : M ≤ W.heap.size) (hS : InTS W n₀ B ao ac oo oc az os) (hJ : AbidesFrom W.heap.size J) (hJx : AbidesFrom W.heap.size Jx)
    (hY : ∀ pre (x : { x : TT × Value // x ∈ partsT az os }) W1, J pre W1 → pre.length < (partsT az os).length → YieldAt Fence.wide (n - 1) Tryz.prog l #[x.1.2] W1 fun e W' =>
      (e = .returned (.bool true) ∧ J (pre ++ [x]) W' ∧ KpT n₀ B M W1 W') ∨ (e = .returned (.bool false) ∧ Jx (pre ++ [x]) W')) (h0 : J [] W) :
    CallsIn Fence.wide n Tryz.prog 31 #[.func (.yield l) #[] #[], .pointer (some ⟨B, 0, none⟩)] W fun e W' => (∃ v, e = .returned v) ∧
      ((∃ xs : List { x : TT × Value // x ∈ partsT az os }, xs.map (·.1) = partsT az os ∧ J xs W') ∨ (∃ pre, True ∧ Jx pre W')) := by
  have HJ := Hid.mk hJ
  have HY := Hid.mk hY
  have H0 := Hid.mk h0
  have HS := Hid.mk hS
  have HSh := Hid.mk hsh
  have g7 := hS.c7
  clear hJ hJx hY h0 hS hsh
  obtain ⟨NA, hNA⟩ : ∃ NA, az.length = NA := ⟨_, rfl⟩
  obtain ⟨NO, hNO⟩ : ∃ NO, os.length = NO := ⟨_, rfl⟩
  have HNA := Hid.mk hNA
  have HNO := Hid.mk hNO
  rw [hNA] at g7 hA hA2
  rw [hNO] at hO hO2
  clear hNA hNO
  refine callsIn_of_wp Tryz.func31 rfl trivial ?_ rfl
  simp only [Tryz.ntmps31, List.size_toArray, List.length_cons, List.length_nil, Nat.reduceAdd, Nat.reduceSub, Array.replicate_succ, Array.replicate_zero, List.push_toArray, List.append_toArray, List.nil_append, List.cons_append]
  gi_wp2_with fail
  clear g7
  gi_loopw [12] (fun i wr => ∃ (k : Nat), k ≤ NA ∧ i = .int .i64 (k : Int) ∧ n₀ ≤ wr.heap.size ∧ M ≤ wr.heap.size ∧ W.heap.size ≤ wr.heap.size ∧ Hid (InTS wr n₀ B ao ac oo oc az os ∧ ∃ pre : List { x : TT × Value // x ∈ partsT az os }, pre.map (·.1) = az.take k ∧ J pre wr)) (fun i _ => NA - (intOf i).toNat)
  case atStart => exact ⟨0, Nat.zero_le _, rfl, hn0, hM, Nat.le_refl _, HS.out, [], by simp, H0.out⟩
  case round =>
    obtain ⟨k, hk, rfl, hn1, hm1, hw1, HQ⟩ := hrel
    by_cases hlt : k < NA
    · have hl1 : (k : Int) < (NA : Int) := by omega
      have hka : k < az.length := by rw [HNA.out]; exact hlt
      obtain ⟨b, off, mn, mx, hao, hb, ⟨c0, c1, c2, c3, c4, c5, c6, c7, c8, hnv, hc9⟩, am, ax⟩ := HQ.out.1.arrs k hka
      subst hao
      obtain ⟨sa, sb, sc, sd, seo, sen, sec, sf, sgo, sgn, sgc, sio, sinn, sic, sjo, sjn, sjc, hsv⟩ := HSh.out _ (parts_a (os := os) hka)
      rw [hsv] at hnv
      simp only [Value.agg.injEq, Array.mk.injEq, List.cons.injEq, and_true] at hnv
      obtain ⟨rfl, rfl, rfl, rfl, rfl, rfl, rfl, rfl, rfl⟩ := hnv
      obtain ⟨q0, q1, q2, q3, q4, q5, q6, q7, q8⟩ := hc9
      obtain ⟨pre, hpre, hJp⟩ := HQ.out.2
      have hAl : Below wr.heap.size wr (wr.alloc (.cells #[.bool sa, .bool sb, .bool sc, .bool sd, .slice seo sen sec, .bool sf, .slice sgo sgn sgc, .slice sio sinn sic, .slice sjo sjn sjc, .int .i64 mn, .int .i64 mx] 58)) := below1 wr _
      have hJ1 : J pre (wr.alloc (.cells #[.bool sa, .bool sb, .bool sc, .bool sd, .slice seo sen sec, .bool sf, .slice sgo sgn sgc, .slice sio sinn sic, .slice sjo sjn sjc, .int .i64 mn, .int .i64 mx] 58)) := HJ.out _ _ _ none hJp ⟨hAl.os, hAl.tape, hAl.output, hAl.size, fun j hj _ => hAl.block j hj⟩ (fun r e => by cases e)
      have hpl : pre.length = k := by have := congrArg List.length hpre; rw [List.length_map, List.length_take] at this; omega
      obtain ⟨fn, tmps, assign, body, hy, hR⟩ := HY.out pre ⟨az[k], parts_a hka⟩ _ hJ1 (by have := parts_la (az := az) (os := os); omega)
      dsimp only at hy
      rw [hsv] at hy
      have HSa := Hid.mk (HQ.out.1.keep (KpT.of_below (M := M) hn1 hAl))
      have HRd := Hid.mk hR
      have HPr : Hid ((pre ++ [(⟨az[k], parts_a hka⟩ : { x : TT × Value // x ∈ partsT az os })]).map (·.1) = az.take (k + 1)) := by show _ = _; rw [List.map_append, hpre, List.take_add_one, List.getElem?_eq_getElem hka]; rfl
      clear hJ1 hJp hpre hpl hR hAl hsv
      gi_wp2_with fail
      refine HRd.out.mono ?_
      rintro e W4 (⟨rfl, hJ4, hk4⟩ | ⟨rfl, hJx4⟩)
      · have HN : Hid (InTS W4 n₀ B (some ⟨b, off, none⟩) ac oo oc az os ∧ ∃ pre : List { x : TT × Value // x ∈ partsT az os }, pre.map (·.1) = az.take (k + 1) ∧ J pre W4) := ⟨HSa.out.keep hk4, _, HPr.out, hJ4⟩
        have hs4 := hk4.below.size
        clear hJ4 hk4 hy
        gi_wp2_with fail
        go_roundw
        case rel => exact ⟨k + 1, hlt, by go_num, by simp at hs4; omega, by simp at hs4; omega, by simp at hs4; omega, HN⟩
        case measure => simp [intOf]; omega
      · have HX := Hid.mk hJx4
        clear hJx4 hy
        gi_wp2_with fail
        refine bodyPost_ret (results_none rfl _ _ _) rfl ?_
        exact ⟨⟨_, rfl⟩, .inr ⟨_, trivial, HX.out⟩⟩
    · have hl1 : ¬ (k : Int) < (NA : Int) := by omega
      have HQ2 : Hid (InTS wr n₀ B ao ac oo oc az os ∧ ∃ pre : List { x : TT × Value // x ∈ partsT az os }, pre.map (·.1) = az ++ (os.take 0).flatMap (fun o => o.1 ++ [o.2]) ∧ J pre wr) := by
        obtain ⟨hs, pre, hpre, hJp⟩ := HQ.out
        exact ⟨hs, pre, by rw [hpre, List.take_of_length_le (by rw [HNA.out]; omega)]; simp, hJp⟩
      have g8 := HQ.out.1.c8
      rw [HNO.out] at g8
      clear HQ hk hlt
      gi_wp2_with fail
      clear g8 hl1
      gi_loopw [25] (fun i wr => ∃ (k : Nat), k ≤ NO ∧ i = .int .i64 (k : Int) ∧ n₀ ≤ wr.heap.size ∧ M ≤ wr.heap.size ∧ W.heap.size ≤ wr.heap.size ∧ Hid (InTS wr n₀ B ao ac oo oc az os ∧ ∃ pre : List { x : TT × Value // x ∈ partsT az os }, pre.map (·.1) = az ++ (os.take k).flatMap (fun o => o.1 ++ [o.2]) ∧ J pre wr)) (fun i _ => NO - (intOf i).toNat)
      case atStart => exact ⟨0, Nat.zero_le _, rfl, hn1, hm1, hw1, HQ2⟩
      case round =>
        clear hn1 hm1 hw1 HQ2
        obtain ⟨k, hk, rfl, hn1, hm1, hw1, HQ⟩ := hrel
        by_cases hlt : k < NO
        · have hl1 : (k : Int) < (NO : Int) := by omega
          have hko : k < os.length := by rw [HNO.out]; exact hlt
          obtain ⟨b, off, ko, nK, kc, fo, fc, mo, nM, mc, hoo, hb, ⟨k0, k1, k2⟩, ⟨c0, c1, c2, c3, c4, c5, c6, c7, c8, hnv, hc9⟩, hfc, hfl, hfd⟩ := HQ.out.1.objs k hko
          subst hoo
          obtain ⟨sa, sb, sc, sd, seo, sen, sec, sf, sgo, sgn, sgc, sio, sinn, sic, sjo, sjn, sjc, hsv⟩ := HSh.out _ (parts_r (az := az) hko)
          have hsv2 := hsv
          rw [hsv] at hnv
          simp only [Value.agg.injEq, Array.mk.injEq, List.cons.injEq, and_true] at hnv
          obtain ⟨rfl, rfl, rfl, rfl, rfl, rfl, rfl, rfl, rfl⟩ := hnv
          obtain ⟨q0, q1, q2, q3, q4, q5, q6, q7, q8⟩ := hc9
          obtain ⟨NF, hNF⟩ : ∃ NF, os[k].1.length = NF := ⟨_, rfl⟩
          have HNF := Hid.mk hNF
          have HFD := Hid.mk hfd
          rw [hNF] at k1 hfc hfl
          obtain ⟨pre0, hpre0, hJp0⟩ := HQ.out.2
          have hAl : Below wr.heap.size wr (wr.alloc (.cells #[.slice ko nK kc, .slice fo NF fc, .slice mo nM mc, .bool sa, .bool sb, .bool sc, .bool sd, .slice seo sen sec, .bool sf, .slice sgo sgn sgc, .slice sio sinn sic, .slice sjo sjn sjc] 62)) := below1 wr _
          have hJ1 : J pre0 (wr.alloc (.cells #[.slice ko nK kc, .slice fo NF fc, .slice mo nM mc, .bool sa, .bool sb, .bool sc, .bool sd, .slice seo sen sec, .bool sf, .slice sgo sgn sgc, .slice sio sinn sic, .slice sjo sjn sjc] 62)) := HJ.out _ _ _ none hJp0 ⟨hAl.os, hAl.tape, hAl.output, hAl.size, fun j hj _ => hAl.block j hj⟩ (fun r e => by cases e)
          have HBl0 := Hid.mk (hAl.mono hn1)
          obtain ⟨wr0, hwr0⟩ : ∃ wr0, wr0 = wr := ⟨_, rfl⟩
          obtain ⟨X, hX⟩ : ∃ X, wr.heap.size = X := ⟨_, rfl⟩
          have hXM : M ≤ X := by omega
          have hXW : W.heap.size ≤ X := by omega
          have HBX : Hid (C9 (wr.alloc (.cells #[.slice ko nK kc, .slice fo NF fc, .slice mo nM mc, .bool sa, .bool sb, .bool sc, .bool sd, .slice seo sen sec, .bool sf, .slice sgo sgn sgc, .slice sio sinn sic, .slice sjo sjn sjc] 62)) X 3 (.bool sa) (.bool sb) (.bool sc) (.bool sd) (.slice seo sen sec) (.bool sf) (.slice sgo sgn sgc) (.slice sio sinn sic) (.slice sjo sjn sjc)) := by
            rw [← hX]; exact ⟨by simp [go_sem], by simp [go_sem], by simp [go_sem], by simp [go_sem], by simp [go_sem], by simp [go_sem], by simp [go_sem], by simp [go_sem], by simp [go_sem]⟩
          have HQ3 : Hid (InTS (wr.alloc (.cells #[.slice ko nK kc, .slice fo NF fc, .slice mo nM mc, .bool sa, .bool sb, .bool sc, .bool sd, .slice seo sen sec, .bool sf, .slice sgo sgn sgc, .slice sio sinn sic, .slice sjo sjn sjc] 62)) n₀ B ao ac (some ⟨b, off, none⟩) oc az os ∧ ∃ pre : List { x : TT × Value // x ∈ partsT az os }, pre.map (·.1) = az ++ (os.take k).flatMap (fun o => o.1 ++ [o.2]) ++ os[k].1.take 0 ∧ J pre (wr.alloc (.cells #[.slice ko nK kc, .slice fo NF fc, .slice mo nM mc, .bool sa, .bool sb, .bool sc, .bool sd, .slice seo sen sec, .bool sf, .slice sgo sgn sgc, .slice sio sinn sic, .slice sjo sjn sjc] 62))) := ⟨HQ.out.1.keep (KpT.of_below (M := M) hn1 hAl), pre0, by rw [hpre0]; simp, hJ1⟩
          have hsz1 : (wr.alloc (.cells #[.slice ko nK kc, .slice fo NF fc, .slice mo nM mc, .bool sa, .bool sb, .bool sc, .bool sd, .slice seo sen sec, .bool sf, .slice sgo sgn sgc, .slice sio sinn sic, .slice sjo sjn sjc] 62)).heap.size = X + 1 := by rw [← hX]; simp
          have HSV := Hid.mk hsv2
          obtain ⟨V, hV⟩ : ∃ V, wr.alloc (.cells #[.slice ko nK kc, .slice fo NF fc, .slice mo nM mc, .bool sa, .bool sb, .bool sc, .bool sd, .slice seo sen sec, .bool sf, .slice sgo sgn sgc, .slice sio sinn sic, .slice sjo sjn sjc] 62) = V := ⟨_, rfl⟩
          rw [hV] at hsz1 HBX HQ3 HBl0
          rw [← hwr0] at HBl0 HFD
          clear hwr0
          have x1 : V.cell? ⟨X, 1, none⟩ = some (.slice fo NF fc) := by rw [← hV, ← hX]; simp [go_sem]
          have hXl : X < V.heap.size := by omega
          clear hAl hJ1 hJp0 hpre0 hsv hsv2 hfd HQ hNF
          gi_wp2_with fail
          clear x1 hl1 k0 k1 k2 hV q0 q1 q2 q3 q4 q5 q6 q7 q8
          gi_loopw [32] (fun i wr => ∃ (j : Nat), j ≤ NF ∧ i = .int .i64 (j : Int) ∧ n₀ ≤ wr.heap.size ∧ M ≤ wr.heap.size ∧ W.heap.size ≤ wr.heap.size ∧ X < wr.heap.size ∧ Hid (Below n₀ wr0 wr) ∧ Hid (C9 wr X 3 (.bool sa) (.bool sb) (.bool sc) (.bool sd) (.slice seo sen sec) (.bool sf) (.slice sgo sgn sgc) (.slice sio sinn sic) (.slice sjo sjn sjc)) ∧ Hid (InTS wr n₀ B ao ac (some ⟨b, off, none⟩) oc az os ∧ ∃ pre : List { x : TT × Value // x ∈ partsT az os }, pre.map (·.1) = az ++ (os.take k).flatMap (fun o => o.1 ++ [o.2]) ++ os[k].1.take j ∧ J pre wr)) (fun i _ => NF - (intOf i).toNat)
          case atStart => exact ⟨0, Nat.zero_le _, rfl, by omega, by omega, by omega, hXl, HBl0, HBX, HQ3⟩
          case round =>
            clear hn1 hm1 hw1 HQ3 HBX hXl hsz1 hX
            obtain ⟨j, hj, rfl, hn1, hm1, hw1, hXl, HBl, HBX, HQ⟩ := hrel
            by_cases hjt : j < NF
            · have hj1 : (j : Int) < (NF : Int) := by omega
              have hjf : j < os[k].1.length := by rw [HNF.out]; exact hjt
              obtain ⟨b2, off2, hfo, hb2, hn9⟩ := HFD.out j hjf
              subst hfo
              obtain ⟨c0, c1, c2, c3, c4, c5, c6, c7, c8, hnv, hc9⟩ := hn9.keep HBl.out hb2
              obtain ⟨ta, tb, tc, td, teo, ten, tec, tf, tgo, tgn, tgc, tio, tinn, tic, tjo, tjn, tjc, hsv⟩ := HSh.out _ (parts_f (az := az) hko hjf)
              rw [hsv] at hnv
              simp only [Value.agg.injEq, Array.mk.injEq, List.cons.injEq, and_true] at hnv
              obtain ⟨rfl, rfl, rfl, rfl, rfl, rfl, rfl, rfl, rfl⟩ := hnv
              obtain ⟨q0, q1, q2, q3, q4, q5, q6, q7, q8⟩ := hc9
              obtain ⟨pre, hpre, hJp⟩ := HQ.out.2
              have hAl : Below wr.heap.size wr (wr.alloc (.cells #[.bool ta, .bool tb, .bool tc, .bool td, .slice teo ten tec, .bool tf, .slice tgo tgn tgc, .slice tio tinn tic, .slice tjo tjn tjc] 27)) := below1 wr _
              have hJ1 : J pre (wr.alloc (.cells #[.bool ta, .bool tb, .bool tc, .bool td, .slice teo ten tec, .bool tf, .slice tgo tgn tgc, .slice tio tinn tic, .slice tjo tjn tjc] 27)) := HJ.out _ _ _ none hJp ⟨hAl.os, hAl.tape, hAl.output, hAl.size, fun j hj _ => hAl.block j hj⟩ (fun r e => by cases e)
              have hpl : pre.length < (partsT az os).length := by
                have h1 := congrArg List.length hpre
                rw [List.length_map] at h1
                have h2 := congrArg List.length (parts_split (az := az) hko j)
                rw [List.length_append, ← h1] at h2
                rw [h2]; simp; omega
              obtain ⟨fn, tmps, assign, body, hy, hR⟩ := HY.out pre ⟨os[k].1[j], parts_f hko hjf⟩ _ hJ1 hpl
              dsimp only at hy
              rw [hsv] at hy
              have HSa := Hid.mk (HQ.out.1.keep (KpT.of_below (M := M) hn1 hAl))
              have hAlH := Hid.mk hAl
              have HBa := Hid.mk (HBX.out.keep hAl hXl)
              have HRd := Hid.mk hR
              have HPr : Hid ((pre ++ [(⟨os[k].1[j], parts_f hko hjf⟩ : { x : TT × Value // x ∈ partsT az os })]).map (·.1) = az ++ (os.take k).flatMap (fun o => o.1 ++ [o.2]) ++ os[k].1.take (j + 1)) := by show _ = _; rw [List.map_append, hpre, List.take_succ_eq_append_getElem hjf]; simp
              clear hJ1 hJp hpre hpl hR hAl hsv hn9
              gi_wp2_with fail
              refine HRd.out.mono ?_
              rintro e W4 (⟨rfl, hJ4, hk4⟩ | ⟨rfl, hJx4⟩)
              · have HN : Hid (InTS W4 n₀ B ao ac (some ⟨b, off, none⟩) oc az os ∧ ∃ pre : List { x : TT × Value // x ∈ partsT az os }, pre.map (·.1) = az ++ (os.take k).flatMap (fun o => o.1 ++ [o.2]) ++ os[k].1.take (j + 1) ∧ J pre W4) := ⟨HSa.out.keep hk4, _, HPr.out, hJ4⟩
                have HBln : Hid (Below n₀ wr0 W4) := (HBl.out.trans (hAlH.out.mono hn1)).trans hk4.below
                have HBn : Hid (C9 W4 X 3 (.bool sa) (.bool sb) (.bool sc) (.bool sd) (.slice seo sen sec) (.bool sf) (.slice sgo sgn sgc) (.slice sio sinn sic) (.slice sjo sjn sjc)) := ⟨hk4.box _ _ _ (.inr hXM) HBa.out.c0, hk4.box _ _ _ (.inr hXM) HBa.out.c1, hk4.box _ _ _ (.inr hXM) HBa.out.c2, hk4.box _ _ _ (.inr hXM) HBa.out.c3, hk4.box _ _ _ (.inr hXM) HBa.out.c4, hk4.box _ _ _ (.inr hXM) HBa.out.c5, hk4.box _ _ _ (.inr hXM) HBa.out.c6, hk4.box _ _ _ (.inr hXM) HBa.out.c7, hk4.box _ _ _ (.inr hXM) HBa.out.c8⟩
                have hs4 := hk4.below.size
                clear hJ4 hk4 hy
                gi_wp2_with fail
                go_roundw
                case rel => exact ⟨j + 1, hjt, by go_num, by simp at hs4; omega, by simp at hs4; omega, by simp at hs4; omega, by simp at hs4; omega, HBln, HBn, HN⟩
                case measure => simp [intOf]; omega
              · have HX := Hid.mk hJx4
                clear hJx4 hy
                gi_wp2_with fail
                refine bodyPost_ret (results_none rfl _ _ _) rfl ?_
                exact ⟨⟨_, rfl⟩, .inr ⟨_, trivial, HX.out⟩⟩
            · have hj1 : ¬ (j : Int) < (NF : Int) := by omega
              obtain ⟨pre, hpre, hJp⟩ := HQ.out.2
              have htk : os[k].1.take j = os[k].1 := List.take_of_length_le (by rw [HNF.out]; omega)
              rw [htk] at hpre
              have hpl : pre.length < (partsT az os).length := by
                have h1 := congrArg List.length hpre
                rw [List.length_map] at h1
                have h2 := congrArg List.length (parts_split (az := az) hko os[k].1.length)
                have htl : os[k].1.take os[k].1.length = os[k].1 := List.take_length
                rw [htl, List.length_append, ← h1] at h2
                rw [h2]; simp
              obtain ⟨fn, tmps, assign, body, hy, hR⟩ := HY.out pre ⟨os[k].2, parts_r hko⟩ _ hJp hpl
              dsimp only at hy
              rw [HSV.out] at hy
              have HSa := Hid.mk HQ.out.1
              have HRd := Hid.mk hR
              have HPr : Hid ((pre ++ [(⟨os[k].2, parts_r hko⟩ : { x : TT × Value // x ∈ partsT az os })]).map (·.1) = az ++ (os.take (k + 1)).flatMap (fun o => o.1 ++ [o.2])) := by show _ = _; rw [parts_up hko, List.map_append, hpre]; rfl
              obtain ⟨q0, q1, q2, q3, q4, q5, q6, q7, q8⟩ := HBX.out
              simp only [Nat.reduceAdd] at q1 q2 q3 q4 q5 q6 q7 q8
              clear hJp hpre hpl hR HQ
              gi_wp2_with fail
              refine HRd.out.mono ?_
              rintro e W4 (⟨rfl, hJ4, hk4⟩ | ⟨rfl, hJx4⟩)
              · have HN : Hid (InTS W4 n₀ B ao ac (some ⟨b, off, none⟩) oc az os ∧ ∃ pre : List { x : TT × Value // x ∈ partsT az os }, pre.map (·.1) = az ++ (os.take (k + 1)).flatMap (fun o => o.1 ++ [o.2]) ∧ J pre W4) := ⟨HSa.out.keep hk4, _, HPr.out, hJ4⟩
                have hs4 := hk4.below.size
                clear hJ4 hk4 hy q0 q1 q2 q3 q4 q5 q6 q7 q8
                gi_wp2_with fail
                go_roundw
                case rel => exact ⟨k + 1, hlt, by go_num, by omega, by omega, by omega, HN⟩
                case measure => simp [intOf]; omega
              · have HX := Hid.mk hJx4
                clear hJx4 hy
                gi_wp2_with fail
                refine bodyPost_ret (results_none rfl _ _ _) rfl ?_
                exact ⟨⟨_, rfl⟩, .inr ⟨_, trivial, HX.out⟩⟩
        · have hl1 : ¬ (k : Int) < (NO : Int) := by omega
          have HF : Hid (∃ xs : List { x : TT × Value // x ∈ partsT az os }, xs.map (·.1) = partsT az os ∧ J xs wr) := by
            obtain ⟨_, pre, hpre, hJp⟩ := HQ.out
            exact ⟨pre, by rw [hpre, List.take_of_length_le (by rw [HNO.out]; omega)]; rfl, hJp⟩
          clear HQ
          gi_wp2_with fail
          go_end0
          exact ⟨⟨_, rfl⟩, .inl HF.out⟩
end Go.Proofs.YthcohnnikmpjkaaGreat
