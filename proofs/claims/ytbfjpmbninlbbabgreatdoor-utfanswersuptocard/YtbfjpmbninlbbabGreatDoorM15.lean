import Derived.RangeFuncNested
import Derived.RangeFuncBound
import Derived.RangeFuncCalls
import Derived.RangeFuncLeaves
import Derived.RangeFuncBox
import Derived.Shelf.Abstract
import Derived.Shelf.RegionOpen
import Derived.WalkKit
import Derived.OwnWalkIn
import Derived.TacticsInMore
import Derived.LoopNIn
import Derived.LoopIn
import Derived.Maps.OwnIn
import Derived.Maps.AppendAt
import Derived.Test.YtbfjpmbninlbbabGreatDoorM14
namespace Go.Proofs.YtbfjpmbninlbbabGreatDoor
open Go.RowKit Go.Shelf
set_option linter.unusedVariables false
set_option linter.unusedSimpArgs false
attribute [local go_sem] Oper.semAt_some

/-- the block of the row that the variable in box B holds -/
def rowAt (W : World) (B : Nat) : Option Nat := (W.cell? ⟨B, 0, none⟩).bind Value.ownBlock

/-- what a round that collects into box B, and writes into the boxes E alone, keeps -/
structure KpB (E : Nat → Prop) (B : Nat) (W W' : World) : Prop where
  size : W.heap.size ≤ W'.heap.size
  same : ∀ b o, ¬ E b → rowAt W B ≠ some b → W.heap[b]? = some o → o.isCells = true → W'.heap[b]? = some o
  row : rowAt W' B = rowAt W B ∨ ∃ b', rowAt W' B = some b' ∧ W.heap.size ≤ b'

theorem KpB.trans {E : Nat → Prop} {B : Nat} {X Y Z : World} (h : KpB E B X Y) (k : KpB E B Y Z) : KpB E B X Z := by
  refine ⟨Nat.le_trans h.size k.size, fun b o hb hr ho hc => ?_, ?_⟩
  · have h1 := h.same b o hb hr ho hc
    refine k.same b o hb ?_ h1 hc
    rcases h.row with e | ⟨b', e, hle⟩
    · rw [e]; exact hr
    · rw [e]
      intro e2
      cases e2
      have := (Array.getElem?_eq_some_iff.1 ho).1
      omega
  · rcases k.row with e | ⟨b', e, hle⟩
    · rw [e]; exact h.row
    · exact .inr ⟨b', e, Nat.le_trans h.size hle⟩
theorem KpB.put {E : Nat → Prop} {B : Nat} {w : World} (hB : B < w.heap.size) (W : World) (l : Nat) (o o' : Obj) (hl : w.heap.size ≤ l) (h : W.heap[l]? = some o) (hc : o.isCells = false) (_ : o.isWalk = false) : KpB E B W (W.putObj l o') := by
  have hlt := (Array.getElem?_eq_some_iff.1 h).1
  refine ⟨(grownBy_putObj' W l o').size, fun b x hb hr hx hxc => ?_, .inl ?_⟩
  · rw [World.putObj_heap_other (by rintro rfl; rw [h] at hx; cases hx; rw [hc] at hxc; cases hxc)]; exact hx
  · unfold rowAt
    rw [World.cell?_of_block (w := W) (w' := W.putObj l o') (a := ⟨B, 0, none⟩) (World.putObj_heap_other (by show B ≠ l; omega))]
theorem isCells_of_cell {W : World} {a : Addr} {v : Value} (h : W.cell? a = some v) : ∃ o : Obj, W.heap[a.block]? = some o ∧ o.isCells = true := by
  unfold World.cell? at h
  cases ho : W.heap[a.block]? with
  | none => simp [ho] at h
  | some o => exact ⟨o, rfl, by cases o <;> simp_all [Obj.isCells]⟩
theorem KpB.cell {E : Nat → Prop} {B : Nat} {W W' : World} (h : KpB E B W W') {a : Addr} {v : Value} (hv : W.cell? a = some v) (hb : ¬ E a.block) (hr : rowAt W B ≠ some a.block) : W'.cell? a = some v := by
  obtain ⟨o, ho, hc⟩ := isCells_of_cell hv
  rw [World.cell?_of_block (w := W) (w' := W') ((h.same _ o hb hr ho hc).trans ho.symm)]
  exact hv
theorem rowAt_below {W W' : World} {B : Nat} (h : Below W.heap.size W W') (hB : B < W.heap.size) : rowAt W' B = rowAt W B := by
  unfold rowAt; rw [h.cell (p := ⟨B, 0, none⟩) hB]

theorem gr_of_below {w w' : World} (h : Below w.heap.size w w') : w.grownBy w' none := ⟨h.os, h.tape, h.output, h.size, fun k hk _ => h.block k hk⟩
theorem ab_below {β : Type} {B : Nat} {J : β → World → Prop} (hJ : AbidesFrom B J) {s : β} {w w' : World} (h : J s w) (hb : Below w.heap.size w w') : J s w' := hJ s w w' none h (gr_of_below hb) (fun r e => by cases e)

/-- what the walk of the places holds between two rounds -/
structure PlSt (E : Nat → Prop) (J : List Nat → World → Prop) (p t : List UInt8) (B Bp Bs g i k : Nat) (pb sb : ByteArray) (wr : World) : Prop where
  max : IsMax p k (t.take i)
  inv : J (occs p t i) wr
  bords : Bords wr p g p.length
  cp : wr.cell? ⟨Bp, 0, none⟩ = some (.string pb)
  cs : wr.cell? ⟨Bs, 0, none⟩ = some (.string sb)
  row : rowAt wr B = none ∨ ∃ b', rowAt wr B = some b' ∧ g < b'
  lt : Bp < g ∧ Bs < g ∧ B < g ∧ g < wr.heap.size ∧ ¬ E Bp ∧ ¬ E Bs ∧ ¬ E g

theorem PlSt.rowNe {E : Nat → Prop} {J : List Nat → World → Prop} {p t : List UInt8} {B Bp Bs g i k : Nat} {pb sb : ByteArray} {wr : World} (h : PlSt E J p t B Bp Bs g i k pb sb wr) {b : Nat} (hb : b ≤ g) : rowAt wr B ≠ some b := by
  rcases h.row with e | ⟨b', e, hlt⟩
  · rw [e]; simp
  · rw [e]; intro e2; cases e2; omega

theorem PlSt.round {E : Nat → Prop} {J : List Nat → World → Prop} {p t : List UInt8} {B Bp Bs g i k k' : Nat} {pb sb : ByteArray} {wr W' : World} (h : PlSt E J p t B Bp Bs g i k pb sb wr) (hk : KpB E B wr.drew W') (hm : IsMax p k' (t.take (i + 1))) (hj : J (occs p t (i + 1)) W') : PlSt E J p t B Bp Bs g (i + 1) k' pb sb W' := by
  obtain ⟨l1, l2, l3, l4, n1, n2, n3⟩ := h.lt
  have hs : wr.heap.size ≤ W'.heap.size := hk.size
  refine ⟨hm, hj, ⟨by omega, fun j hj => ?_⟩, hk.cell (a := ⟨Bp, 0, none⟩) h.cp n1 (h.rowNe (by show Bp ≤ g; omega)), hk.cell (a := ⟨Bs, 0, none⟩) h.cs n2 (h.rowNe (by show Bs ≤ g; omega)), ?_, ⟨l1, l2, l3, by omega, n1, n2, n3⟩⟩
  · obtain ⟨m, c, hx⟩ := h.bords.2 j hj
    exact ⟨m, hk.cell (a := ⟨g, j, none⟩) c n3 (h.rowNe (Nat.le_refl _)), hx⟩
  · rcases hk.row with e | ⟨b', e, hle⟩
    · rw [e]; exact h.row
    · have : wr.heap.size ≤ b' := hle
      exact .inr ⟨b', e, by omega⟩
theorem KpB.refl (E : Nat → Prop) (B : Nat) (W : World) : KpB E B W W := ⟨Nat.le_refl _, fun _ _ _ _ h _ => h, .inl rfl⟩

theorem occs_yes {p t : List UInt8} {i : Nat} (hi : i < t.length) (h : p <:+ t.take (i + 1)) : p.length ≤ i + 1 ∧ occs p t (i + 1) = occs p t i ++ [i + 1 - p.length] := by
  have hl := h.length_le
  rw [List.length_take] at hl
  have h1 : p.length ≤ i + 1 := by omega
  refine ⟨h1, ?_⟩
  rw [occs_up, if_pos ⟨h1, (occ_end hi (by omega)).1 h⟩]
theorem occs_no {p t : List UInt8} {i : Nat} (hi : i < t.length) (h : ¬ p <:+ t.take (i + 1)) : occs p t (i + 1) = occs p t i := by
  rw [occs_up, if_neg (fun hc => h ((occ_end hi (by omega)).2 hc.2)), List.append_nil]

set_option maxRecDepth 100000 in
set_option maxHeartbeats 4000000 in
theorem places1_in (E : Nat → Prop) (n : Nat) (hn : 1 ≤ n) (l B Bp Bs : Nat) (s p : ByteArray) (ss : s.size ≤ 4294967296) (hp : 0 < p.size) (hps : p.size ≤ s.size)
    (w : World) (cp : w.cell? ⟨Bp, 0, none⟩ = some (.string p)) (cs : w.cell? ⟨Bs, 0, none⟩ = some (.string s)) (hr : rowAt w B = none) (lB : B < w.heap.size) (lp : Bp < w.heap.size) (ls : Bs < w.heap.size) (np : ¬ E Bp) (ns : ¬ E Bs) (hE : ∀ b, E b → b < w.heap.size)
    (J Jx : List Nat → World → Prop) (W : World) (hW : Below w.heap.size w W) (hJ : AbidesFrom W.heap.size J) (hJx : AbidesFrom W.heap.size Jx)
    (hY : ∀ pre x W1, x + p.size ≤ s.size → J pre W1 → pre.length < s.size + 1 → YieldAt Fence.wide (n - 1) Tryz.prog l #[.int .i64 ((x : Nat) : Int)] W1 fun e W' =>
      (e = .returned (.bool true) ∧ J (pre ++ [x]) W' ∧ KpB E B W1 W') ∨ (e = .returned (.bool false) ∧ Jx (pre ++ [x]) W')) (h0 : J [] W) :
    CallsIn Fence.wide n Tryz.prog 64 #[.func (.yield l) #[] #[], .pointer (some ⟨Bp, 0, none⟩), .pointer (some ⟨Bs, 0, none⟩)] W fun e W' => (∃ v, e = .returned v) ∧
      ((∃ xs, xs = occs p.data.toList s.data.toList s.size ∧ J xs W') ∨ (∃ pre, True ∧ Jx pre W')) := by
  have HJ := Hid.mk hJ
  have HY := Hid.mk hY
  have H0 := Hid.mk h0
  have c1 := (hW.cell (p := ⟨Bp, 0, none⟩) lp).trans cp
  have c2 := (hW.cell (p := ⟨Bs, 0, none⟩) ls).trans cs
  have HR : Hid (rowAt W B = none) := by
    show rowAt W B = none
    unfold rowAt at hr ⊢; rw [hW.cell (p := ⟨B, 0, none⟩) lB]; exact hr
  have HC := Hid.mk (And.intro c1 c2)
  have hws := hW.size
  clear hJ hJx hY h0 hW cp cs hr
  have hne : (p.toList.isEmpty) = false := by
    rw [Lib.toList_data]
    have e := size_len p
    cases h : p.data.toList with
    | nil => rw [h] at e; exact absurd e (by simp; omega)
    | cons _ _ => rfl
  have hq : ¬ ((s.size : Int) < (p.size : Int)) := by omega
  refine callsIn_of_wp Tryz.func64 rfl trivial ?_ rfl
  simp only [Tryz.ntmps64, List.size_toArray, List.length_cons, List.length_nil, Nat.reduceAdd, Nat.reduceSub, Array.replicate_succ, Array.replicate_zero, List.push_toArray, List.append_toArray, List.nil_append, List.cons_append]
  gi_wp2_with fail
  refine ⟨trivial, (callsIn_wide.2 (w_bordersOf p _ hp (by omega))).mono ?_⟩
  rintro e w1 ⟨g, rfl, HBG, hb1⟩
  have HG := Hid.mk HBG.out.1
  have HBo := Hid.mk HBG.out.2
  have HS : Hid (PlSt E J p.data.toList s.data.toList B Bp Bs g 0 0 p s w1) := by
    have hg := HG.out
    refine ⟨by rw [List.take_zero]; exact isMax_nil, by simpa [occs] using ab_below HJ.out H0.out hb1, by rw [size_len]; exact HBo.out, (hb1.cell (p := ⟨Bp, 0, none⟩) (by show Bp < _; omega)).trans HC.out.1, (hb1.cell (p := ⟨Bs, 0, none⟩) (by show Bs < _; omega)).trans HC.out.2, .inl ?_, ⟨by omega, by omega, by omega, HBo.out.1, np, ns, fun h => by have := hE g h; omega⟩⟩
    rw [rowAt_below hb1 (by omega)]; exact HR.out
  have c3 := HS.out.cs
  clear hb1 c1 c2 hne hq HBo H0
  gi_wp2_with fail
  gi_loopw [5, 20] (fun m c wr => ∃ i k : Nat, i ≤ s.size ∧ m = .int .i64 (k : Int) ∧ c = .int .i64 (i : Int) ∧ Hid (PlSt E J p.data.toList s.data.toList B Bp Bs g i k p s wr)) (fun _ c _ => s.size - (intOf c).toNat)
  case atStart => exact ⟨0, 0, by omega, rfl, rfl, HS⟩
  case round =>
    obtain ⟨i, k, hi, rfl, rfl, HQ⟩ := hrel
    have d1 := HQ.out.cp
    have d2 := HQ.out.cs
    by_cases hlt : i < s.size
    · have hl1 : (i : Int) < (s.size : Int) := by omega
      have hl0 : (0 : Int) ≤ (i : Int) := by omega
      have hkp : k ≤ p.size := by have := HQ.out.max.1; rwa [size_len] at this
      have hmx : Tryz.prog.follows .mixedOrders = true := by kernel_rfl
      have HG2 : Hid (∀ u, u = wr.drew → Calls Tryz.prog 66 #[.string p, .slice (some ⟨g, 0, none⟩) p.size p.size, .int .i64 (k : Int), .int .u8 (s[i].toNat : Int)] u fun e w' => (∃ k' : Nat, e = .returned (.int .i64 (k' : Int)) ∧ Hid (IsMax p.data.toList k' (s.data.toList.take (i + 1)))) ∧ w' = u) := by
        rintro u rfl
        have hb2 := HQ.out.bords
        rw [size_len] at hb2
        refine (w_goOn p g p.size p.size k s[i] _ wr.drew hp (by omega) hb2 (Nat.le_refl _) HQ.out.max hkp (Nat.le_refl _)).mono ?_
        rintro e w' ⟨⟨k', rfl, hk'⟩, rfl⟩
        refine ⟨⟨k', rfl, ?_⟩, rfl⟩
        have hls : i < s.data.toList.length := by rw [size_len]; exact hlt
        have e1 := take_up hls
        rw [byte_eq s i hlt] at e1
        rw [e1]; exact hk'
      gi_wp2_with fail
      gi_region_with_o (refine ⟨trivial, ?_⟩; gi_at_call 66; refine (callsIn_wide.2 (HG2.out _ rfl)).mono ?_; rintro e w' ⟨⟨k', rfl, HM⟩, hw⟩; obtain rfl := hw.symm)
      all_goals
        have hls : i < s.data.toList.length := by rw [size_len]; exact hlt
        have hdb : Below wr.heap.size wr wr.drew := (Below.refl _ _).drew
        have HJd := Hid.mk (ab_below HJ.out HQ.out.inv hdb)
        clear hdb
        by_cases hful : k' = p.size
        · have hsuf : p.data.toList <:+ s.data.toList.take (i + 1) := HM.out.whole.1 (by rw [size_len]; exact hful)
          obtain ⟨ho1, ho2⟩ := occs_yes hls hsuf
          rw [size_len] at ho1 ho2
          have HO := Hid.mk ho2
          have hx : ((i + 1 - p.size : Nat) : Int) = (i : Int) + 1 - (p.size : Int) := by omega
          have hlen := occs_len (p := p.data.toList) (t := s.data.toList) i
          obtain ⟨fn, tmps, assign, body, hy, hR⟩ := HY.out _ (i + 1 - p.size) wr.drew (by omega) HJd.out (by omega)
          rw [hx] at hy
          have HRd := Hid.mk hR
          have HKF := Hid.mk hful
          have hkq : ((k' : Int) == (p.size : Int)) = true := by simp; omega
          clear hful hsuf ho2 hx hlen hR
          gi_wp2_with fail
          refine HRd.out.mono ?_
          rintro e W4 (⟨rfl, hJ4, hk4⟩ | ⟨rfl, hJx4⟩)
          · have HN : Hid (PlSt E J p.data.toList s.data.toList B Bp Bs g (i + 1) k' p s W4) := HQ.out.round hk4 HM.out (by rw [HO.out]; exact hJ4)
            clear hJ4 hk4 hy
            gi_wp2_with fail
            go_roundw
            case rel => exact ⟨i + 1, k', by omega, rfl, by go_num, HN⟩
            case measure => simp [intOf]; omega
          · have HX := Hid.mk hJx4
            clear hJx4 hy
            gi_wp2_with fail
            refine bodyPost_ret (results_none rfl _ _ _) rfl ?_
            exact ⟨⟨_, rfl⟩, .inr ⟨_, trivial, HX.out⟩⟩
        · have hnsuf : ¬ p.data.toList <:+ s.data.toList.take (i + 1) := fun hc => hful (by have := HM.out.whole.2 hc; rwa [size_len] at this)
          have HN : Hid (PlSt E J p.data.toList s.data.toList B Bp Bs g (i + 1) k' p s wr.drew) := HQ.out.round (KpB.refl _ _ _) HM.out (by rw [occs_no hls hnsuf]; exact HJd.out)
          have hkq : ((k' : Int) == (p.size : Int)) = false := by simp; omega
          clear hful hnsuf
          gi_wp2_with fail
          refine ⟨fun _ h => (by cases h), ?_⟩
          gi_wp2_with fail
          go_roundw
          case rel => exact ⟨i + 1, k', by omega, rfl, by go_num, HN⟩
          case measure => simp [intOf]; omega
    · have hl1 : ¬ (i : Int) < (s.size : Int) := by omega
      have hie : i = s.size := by omega
      have HF : Hid (J (occs p.data.toList s.data.toList s.size) wr) := by have := HQ.out.inv; rwa [hie] at this
      clear hie
      gi_wp2_with fail
      go_end0
      first | exact ⟨⟨_, rfl⟩, .inl ⟨_, rfl, HF.out⟩⟩ | exact ⟨⟨_, rfl⟩, .inl HF.out⟩

set_option maxRecDepth 100000 in
set_option maxHeartbeats 2000000 in
theorem places1_none (n : Nat) (l Bp Bs : Nat) (s p : ByteArray) (hno : p.size = 0 ∨ s.size < p.size) (W : World) (c1 : W.cell? ⟨Bp, 0, none⟩ = some (.string p)) (c2 : W.cell? ⟨Bs, 0, none⟩ = some (.string s)) :
    CallsIn Fence.wide n Tryz.prog 64 #[.func (.yield l) #[] #[], .pointer (some ⟨Bp, 0, none⟩), .pointer (some ⟨Bs, 0, none⟩)] W fun e W' => (∃ v, e = .returned v) ∧ W' = W := by
  rcases Nat.eq_zero_or_pos p.size with h0 | h0
  · have hne : (p.toList.isEmpty) = true := by
      rw [Lib.toList_data]
      have e := size_len p
      cases h : p.data.toList with
      | nil => rfl
      | cons _ _ => rw [h] at e; exact absurd e (by simp; omega)
    clear hno h0
    refine callsIn_of_wp Tryz.func64 rfl trivial ?_ rfl
    simp only [Tryz.ntmps64, List.size_toArray, List.length_cons, List.length_nil, Nat.reduceAdd, Nat.reduceSub, Array.replicate_succ, Array.replicate_zero, List.push_toArray, List.append_toArray, List.nil_append, List.cons_append]
    gi_wp2_with fail
    refine bodyPost_ret (results_none rfl _ _ _) rfl ?_
    exact ⟨⟨_, rfl⟩, rfl⟩
  · have hne : (p.toList.isEmpty) = false := by
      rw [Lib.toList_data]
      have e := size_len p
      cases h : p.data.toList with
      | nil => rw [h] at e; exact absurd e (by simp; omega)
      | cons _ _ => rfl
    have hq : (s.size : Int) < (p.size : Int) := by omega
    clear hno
    refine callsIn_of_wp Tryz.func64 rfl trivial ?_ rfl
    simp only [Tryz.ntmps64, List.size_toArray, List.length_cons, List.length_nil, Nat.reduceAdd, Nat.reduceSub, Array.replicate_succ, Array.replicate_zero, List.push_toArray, List.append_toArray, List.nil_append, List.cons_append]
    gi_wp2_with fail
    refine bodyPost_ret (results_none rfl _ _ _) rfl ?_
    exact ⟨⟨_, rfl⟩, rfl⟩

/-- the places of p in t -/
def plcs (s p : ByteArray) : List Nat := if p.size = 0 then [] else occs p.data.toList s.data.toList s.size
theorem plcs_none {s p : ByteArray} (h : p.size = 0 ∨ s.size < p.size) : plcs s p = [] := by
  unfold plcs
  split
  · rfl
  · rename_i h0
    have hl : 0 < p.data.toList.length := by rw [size_len]; omega
    apply List.eq_nil_iff_forall_not_mem.2
    intro q hq
    have := ((occs_mem hl).1 hq).1
    rw [size_len] at this
    omega

theorem places_stops (E : Nat → Prop) (n : Nat) (hn : 1 ≤ n) (B Bp Bs : Nat) (s p : ByteArray) (ss : s.size ≤ 4294967296)
    (w : World) (cp : w.cell? ⟨Bp, 0, none⟩ = some (.string p)) (cs : w.cell? ⟨Bs, 0, none⟩ = some (.string s)) (hr : rowAt w B = none) (lB : B < w.heap.size) (lp : Bp < w.heap.size) (ls : Bs < w.heap.size) (np : ¬ E Bp) (ns : ¬ E Bs) (hE : ∀ b, E b → b < w.heap.size) :
    SeqStopsK Fence.wide n Tryz.prog 64 #[.pointer (some ⟨Bp, 0, none⟩), .pointer (some ⟨Bs, 0, none⟩)] (fun q : Nat => #[.int .i64 (q : Int)]) (KpB E B) (fun xs => xs = plcs s p) (fun _ => True) (s.size + 1) w := by
  intro l J Jx W hW hJ hJx hY h0
  by_cases hno : p.size = 0 ∨ s.size < p.size
  · refine (places1_none n l Bp Bs s p hno W ((hW.cell (p := ⟨Bp, 0, none⟩) lp).trans cp) ((hW.cell (p := ⟨Bs, 0, none⟩) ls).trans cs)).mono ?_
    rintro e W' ⟨hv, rfl⟩
    exact ⟨hv, .inl ⟨[], (plcs_none hno).symm, h0⟩⟩
  · refine (places1_in E n hn l B Bp Bs s p ss (by omega) (by omega) w cp cs hr lB lp ls np ns hE J Jx W hW hJ hJx (fun pre x W1 _ => hY pre x W1) h0).mono ?_
    rintro e W' ⟨hv, (⟨xs, hx, hj⟩ | h)⟩
    · refine ⟨hv, .inl ⟨xs, ?_, hj⟩⟩
      rw [hx]; unfold plcs; rw [if_neg (by omega)]
    · exact ⟨hv, .inr h⟩

/-- the same, each place with its bound -/
theorem places_stopsB (E : Nat → Prop) (n : Nat) (hn : 1 ≤ n) (B Bp Bs : Nat) (s p : ByteArray) (ss : s.size ≤ 4294967296)
    (w : World) (cp : w.cell? ⟨Bp, 0, none⟩ = some (.string p)) (cs : w.cell? ⟨Bs, 0, none⟩ = some (.string s)) (hr : rowAt w B = none) (lB : B < w.heap.size) (lp : Bp < w.heap.size) (ls : Bs < w.heap.size) (np : ¬ E Bp) (ns : ¬ E Bs) (hE : ∀ b, E b → b < w.heap.size) :
    SeqStopsK Fence.wide n Tryz.prog 64 #[.pointer (some ⟨Bp, 0, none⟩), .pointer (some ⟨Bs, 0, none⟩)] (fun q : { q : Nat // q + p.size ≤ s.size } => #[.int .i64 ((q.1 : Nat) : Int)]) (KpB E B) (fun xs => xs.map (·.1) = plcs s p) (fun _ => True) (s.size + 1) w := by
  intro l J Jx W hW hJ hJx hY h0
  by_cases hno : p.size = 0 ∨ s.size < p.size
  · refine (places1_none n l Bp Bs s p hno W ((hW.cell (p := ⟨Bp, 0, none⟩) lp).trans cp) ((hW.cell (p := ⟨Bs, 0, none⟩) ls).trans cs)).mono ?_
    rintro e W' ⟨hv, rfl⟩
    exact ⟨hv, .inl ⟨[], (plcs_none hno).symm, h0⟩⟩
  · refine (places1_in E n hn l B Bp Bs s p ss (by omega) (by omega) w cp cs hr lB lp ls np ns hE (fun xs W => ∃ ys : List { q : Nat // q + p.size ≤ s.size }, ys.map (·.1) = xs ∧ J ys W) (fun xs W => ∃ ys : List { q : Nat // q + p.size ≤ s.size }, ys.map (·.1) = xs ∧ Jx ys W) W hW
      (fun xs A A' row h hg hr => by obtain ⟨ys, e, hj⟩ := h; exact ⟨ys, e, hJ ys A A' row hj hg hr⟩) (fun xs A A' row h hg hr => by obtain ⟨ys, e, hj⟩ := h; exact ⟨ys, e, hJx ys A A' row hj hg hr⟩)
      ?_ ⟨[], rfl, h0⟩).mono ?_
    · rintro pre x W1 hx ⟨ys, rfl, hj⟩ hlen
      obtain ⟨fn, tmps, assign, body, hy, hR⟩ := hY ys ⟨x, hx⟩ W1 hj (by rw [List.length_map] at hlen; exact hlen)
      refine ⟨fn, tmps, assign, body, hy, hR.mono ?_⟩
      rintro e W' (⟨rfl, hj', hk⟩ | ⟨rfl, hj'⟩)
      · exact .inl ⟨rfl, ⟨ys ++ [⟨x, hx⟩], by simp, hj'⟩, hk⟩
      · exact .inr ⟨rfl, ⟨ys ++ [⟨x, hx⟩], by simp, hj'⟩⟩
    · rintro e W' ⟨hv, (⟨xs, hx, ⟨ys, e1, hj⟩⟩ | ⟨pre, _, ⟨ys, e1, hj⟩⟩)⟩
      · refine ⟨hv, .inl ⟨ys, ?_, hj⟩⟩
        show ys.map (·.1) = plcs s p
        rw [e1, hx]; unfold plcs; rw [if_neg (by omega)]
      · exact ⟨hv, .inr ⟨ys, trivial, hj⟩⟩
end Go.Proofs.YtbfjpmbninlbbabGreatDoor
