import Derived.RangeFuncNested
import Derived.RangeFuncBound
import Derived.RangeFuncCalls
import Derived.RangeFuncLeaves
import Derived.RangeFuncBox
import Derived.Shelf.Abstract
import Derived.Shelf.RegionOpen
import Derived.WalkKit
import Derived.OwnWalkIn
import Derived.TacticsInMore
import Derived.LoopNIn
import Derived.LoopIn
import Derived.Test.YtaflpeajapdkdaaM7
namespace Go.Proofs.Ytaflpeajapdkdaa
open Go.RowKit Go.Shelf
set_option linter.unusedVariables false
set_option linter.unusedSimpArgs false
attribute [local go_sem] Oper.semAt_some

/-- what a round keeps: all that lay below n₀, and the box B -/
structure KpV (n₀ B : Nat) (W W' : World) : Prop where
  below : Below n₀ W W'
  box : ∀ j v, W.cell? ⟨B, j, none⟩ = some v → W'.cell? ⟨B, j, none⟩ = some v
theorem KpV.trans {n₀ B : Nat} {X Y Z : World} (h : KpV n₀ B X Y) (k : KpV n₀ B Y Z) : KpV n₀ B X Z := ⟨h.below.trans k.below, fun j v hv => k.box j v (h.box j v hv)⟩
theorem KpV.put {n₀ B : Nat} {w : World} (hm : n₀ ≤ w.heap.size) (W : World) (l : Nat) (o o' : Obj) (hl : w.heap.size ≤ l) (h : W.heap[l]? = some o) (hc : o.isCells = false) (hw : o.isWalk = false) : KpV n₀ B W (W.putObj l o') := by
  refine ⟨belowK_b (w := w) hm W l o o' hl h hc hw, fun j v hv => ?_⟩
  have hne : B ≠ l := by
    rintro rfl
    unfold World.cell? at hv
    simp only [h] at hv
    cases o <;> simp_all [Obj.isCells]
  unfold World.cell? at hv ⊢
  rw [show (W.putObj l o').heap[B]? = W.heap[B]? from by simp [World.putObj, Array.getElem?_setIfInBounds, Ne.symm hne]]
  exact hv

/-- what the iterator reads: its own box, the items, the keys -/
structure InSt (W : World) (n₀ B N K : Nat) (io : Option Addr) (icap : Nat) (ko : Option Addr) (kcap : Nat) (c : Nat → Fin 5 → Value) (ky : Nat → ByteArray) : Prop where
  c3 : W.cell? ⟨B, 3, none⟩ = some (.slice io N icap)
  c4 : W.cell? ⟨B, 4, none⟩ = some (.slice ko K kcap)
  items : ∀ i, i < N → ∃ b off, io = some ⟨b, off, none⟩ ∧ b < n₀ ∧ W.cell? ⟨b, off + i * 5, none⟩ = some (c i 0) ∧ W.cell? ⟨b, off + i * 5 + 1, none⟩ = some (c i 1) ∧ W.cell? ⟨b, off + i * 5 + 2, none⟩ = some (c i 2) ∧ W.cell? ⟨b, off + i * 5 + 3, none⟩ = some (c i 3) ∧ W.cell? ⟨b, off + i * 5 + 4, none⟩ = some (c i 4)
  keys : ∀ i, i < K → ∃ b off, ko = some ⟨b, off, none⟩ ∧ b < n₀ ∧ W.cell? ⟨b, off + i, none⟩ = some (.string (ky i))
theorem InSt.keep {W W' : World} {n₀ B N K : Nat} {io : Option Addr} {icap : Nat} {ko : Option Addr} {kcap : Nat} {c : Nat → Fin 5 → Value} {ky : Nat → ByteArray} (h : InSt W n₀ B N K io icap ko kcap c ky) (hk : KpV n₀ B W W') : InSt W' n₀ B N K io icap ko kcap c ky := by
  refine ⟨hk.box 3 _ h.c3, hk.box 4 _ h.c4, fun i hi => ?_, fun i hi => ?_⟩
  · obtain ⟨b, off, e, hb, a0, a1, a2, a3, a4⟩ := h.items i hi
    exact ⟨b, off, e, hb, (hk.below.cell (p := ⟨_, _, _⟩) hb).trans a0, (hk.below.cell (p := ⟨_, _, _⟩) hb).trans a1, (hk.below.cell (p := ⟨_, _, _⟩) hb).trans a2, (hk.below.cell (p := ⟨_, _, _⟩) hb).trans a3, (hk.below.cell (p := ⟨_, _, _⟩) hb).trans a4⟩
  · obtain ⟨b, off, e, hb, a0⟩ := h.keys i hi
    exact ⟨b, off, e, hb, (hk.below.cell (p := ⟨_, _, _⟩) hb).trans a0⟩
theorem KpV.of_below {n₀ B : Nat} {W W' : World} (hn : n₀ ≤ W.heap.size) (hb : Below W.heap.size W W') : KpV n₀ B W W' := by
  refine ⟨hb.mono hn, fun j v hv => ?_⟩
  exact (hb.cell (p := ⟨B, j, none⟩) (World.block_lt_of_cell? W _ hv)).trans hv

/-- the key beside an item -/
def kyAt (K : Nat) (ky : Nat → ByteArray) (i : Nat) : ByteArray := if i < K then ky i else ⟨#[]⟩
def encI (K : Nat) (ky : Nat → ByteArray) (c : Nat → Fin 5 → Value) (i : Nat) : Array Value := #[.string (kyAt K ky i), .agg #[c i 0, c i 1, c i 2, c i 3, c i 4]]
/-- each item's cells are one cell each -/
def OneC (c : Fin 5 → Value) : Prop := ∃ (k : Int) (n t : ByteArray) (io : Option Addr) (N icap : Nat) (ko : Option Addr) (K kcap : Nat), c 0 = .int .i64 k ∧ c 1 = .string n ∧ c 2 = .string t ∧ c 3 = .slice io N icap ∧ c 4 = .slice ko K kcap

set_option maxRecDepth 100000 in
set_option maxHeartbeats 4000000 in
theorem inside1_in (n : Nat) (hn : 1 ≤ n) (l n₀ B N K : Nat) (io : Option Addr) (icap : Nat) (ko : Option Addr) (kcap : Nat) (c : Nat → Fin 5 → Value) (ky : Nat → ByteArray) (hN : N ≤ icap) (hK : K ≤ kcap) (hN2 : N ≤ 140737488355328) (hone : ∀ i, i < N → OneC (c i))
    (J Jx : List { i : Nat // i < N } → World → Prop) (W : World) (hn0 : n₀ ≤ W.heap.size) (hS : InSt W n₀ B N K io icap ko kcap c ky) (hJ : AbidesFrom W.heap.size J) (hJx : AbidesFrom W.heap.size Jx)
    (hY : ∀ pre (x : { i : Nat // i < N }) W1, J pre W1 → pre.length < N → YieldAt Fence.wide (n - 1) Try.prog l (encI K ky c x.1) W1 fun e W' =>
      (e = .returned (.bool true) ∧ J (pre ++ [x]) W' ∧ KpV n₀ B W1 W') ∨ (e = .returned (.bool false) ∧ Jx (pre ++ [x]) W')) (h0 : J [] W) :
    CallsIn Fence.wide n Try.prog 35 #[.func (.yield l) #[] #[], .pointer (some ⟨B, 0, none⟩)] W fun e W' => (∃ v, e = .returned v) ∧
      ((∃ xs, xs.map (·.1) = List.range N ∧ J xs W') ∨ (∃ pre, True ∧ Jx pre W')) := by
  have HJ := Hid.mk hJ
  have HY := Hid.mk hY
  have H0 := Hid.mk h0
  have HO := Hid.mk hone
  have HS := Hid.mk hS
  have g3 := hS.c3
  clear hJ hJx hY h0 hone hS
  refine callsIn_of_wp Try.func35 rfl trivial ?_ rfl
  simp only [Try.ntmps35, List.size_toArray, List.length_cons, List.length_nil, Nat.reduceAdd, Nat.reduceSub, Array.replicate_succ, Array.replicate_zero, List.push_toArray, List.append_toArray, List.nil_append, List.cons_append]
  gi_wp2_with fail
  clear g3
  gi_loopw [9] (fun i wr => ∃ (k : Nat), k ≤ N ∧ i = .int .i64 (k : Int) ∧ n₀ ≤ wr.heap.size ∧ W.heap.size ≤ wr.heap.size ∧ Hid (InSt wr n₀ B N K io icap ko kcap c ky ∧ ∃ pre : List { i : Nat // i < N }, pre.map (·.1) = List.range k ∧ J pre wr)) (fun i _ => N - (intOf i).toNat)
  case atStart => exact ⟨0, Nat.zero_le _, rfl, hn0, Nat.le_refl _, HS.out, [], rfl, H0.out⟩
  case round =>
    obtain ⟨k, hk, rfl, hn1, hw1, HQ⟩ := hrel
    by_cases hlt : k < N
    · have hl1 : (k : Int) < (N : Int) := by omega
      have g4 := HQ.out.1.c4
      obtain ⟨b, off, hio, hb, a0, a1, a2, a3, a4⟩ := HQ.out.1.items k hlt
      subst hio
      obtain ⟨ik, inm, itx, iio, iN, iicap, iko, iK, ikcap, o0, o1, o2, o3, o4⟩ := HO.out k hlt
      rw [o0] at a0; rw [o1] at a1; rw [o2] at a2; rw [o3] at a3; rw [o4] at a4
      obtain ⟨pre, hpre, hJp⟩ := HQ.out.2
      have hAl : Below wr.heap.size wr (wr.alloc (.cells #[.int .i64 ik, .string inm, .string itx, .slice iio iN iicap, .slice iko iK ikcap] 25)) := below1 wr _
      have hJ1 : J pre (wr.alloc (.cells #[.int .i64 ik, .string inm, .string itx, .slice iio iN iicap, .slice iko iK ikcap] 25)) := HJ.out _ _ _ none hJp ⟨hAl.os, hAl.tape, hAl.output, hAl.size, fun j hj _ => hAl.block j hj⟩ (fun r e => by cases e)
      have hpl : pre.length = k := by have := congrArg List.length hpre; simpa using this
      obtain ⟨fn, tmps, assign, body, hy, hR⟩ := HY.out pre ⟨k, hlt⟩ _ hJ1 (by omega)
      unfold encI at hy
      dsimp only at hy
      rw [o0, o1, o2, o3, o4] at hy
      have HSa := Hid.mk (HQ.out.1.keep (KpV.of_below hn1 hAl))
      have g4a := HSa.out.c4
      have HRd := Hid.mk hR
      have HPr : Hid ((pre ++ [(⟨k, hlt⟩ : { i : Nat // i < N })]).map (·.1) = List.range (k + 1)) := by show _ = _; rw [List.map_append, hpre, List.range_succ]; rfl
      have hsz1 : n₀ ≤ (wr.alloc (.cells #[.int .i64 ik, .string inm, .string itx, .slice iio iN iicap, .slice iko iK ikcap] 25)).heap.size := by simp; omega
      by_cases hkK : k < K
      · have hkK1 : (k : Int) < (K : Int) := by omega
        obtain ⟨kb, koff, hko, hkb, ak⟩ := HSa.out.keys k hkK
        subst hko
        have hkey : kyAt K ky k = ky k := by unfold kyAt; rw [if_pos hkK]
        rw [hkey] at hy
        clear hkey hJ1 hJp hpre hpl hR hAl o0 o1 o2 o3 o4
        gi_wp2_with fail
        refine HRd.out.mono ?_
        rintro e W4 (⟨rfl, hJ4, hk4⟩ | ⟨rfl, hJx4⟩)
        · have HN : Hid (InSt W4 n₀ B N K (some ⟨b, off, none⟩) icap (some ⟨kb, koff, none⟩) kcap c ky ∧ ∃ pre : List { i : Nat // i < N }, pre.map (·.1) = List.range (k + 1) ∧ J pre W4) := ⟨HSa.out.keep hk4, _, HPr.out, hJ4⟩
          have hs4 := hk4.below.size
          clear hJ4 hk4 hy
          gi_wp2_with fail
          go_roundw
          case rel => exact ⟨k + 1, hlt, by go_num, by omega, by simp at hs4; omega, HN⟩
          case measure => simp [intOf]; omega
        · have HX := Hid.mk hJx4
          clear hJx4 hy
          gi_wp2_with fail
          refine bodyPost_ret (results_none rfl _ _ _) rfl ?_
          exact ⟨⟨_, rfl⟩, .inr ⟨_, trivial, HX.out⟩⟩
      · have hkK1 : ¬ (k : Int) < (K : Int) := by omega
        have hkey : kyAt K ky k = ⟨#[]⟩ := by unfold kyAt; rw [if_neg hkK]
        rw [hkey] at hy
        clear hkey hJ1 hJp hpre hpl hR hAl o0 o1 o2 o3 o4
        gi_wp2_with fail
        refine HRd.out.mono ?_
        rintro e W4 (⟨rfl, hJ4, hk4⟩ | ⟨rfl, hJx4⟩)
        · have HN : Hid (InSt W4 n₀ B N K (some ⟨b, off, none⟩) icap ko kcap c ky ∧ ∃ pre : List { i : Nat // i < N }, pre.map (·.1) = List.range (k + 1) ∧ J pre W4) := ⟨HSa.out.keep hk4, _, HPr.out, hJ4⟩
          have hs4 := hk4.below.size
          clear hJ4 hk4 hy
          gi_wp2_with fail
          go_roundw
          case rel => exact ⟨k + 1, hlt, by go_num, by omega, by simp at hs4; omega, HN⟩
          case measure => simp [intOf]; omega
        · have HX := Hid.mk hJx4
          clear hJx4 hy
          gi_wp2_with fail
          refine bodyPost_ret (results_none rfl _ _ _) rfl ?_
          exact ⟨⟨_, rfl⟩, .inr ⟨_, trivial, HX.out⟩⟩
    · have hl1 : ¬ (k : Int) < (N : Int) := by omega
      have hie : k = N := by omega
      obtain ⟨pre, hpre, hJp⟩ := HQ.out.2
      have HF : Hid (∃ xs : List { i : Nat // i < N }, xs.map (·.1) = List.range N ∧ J xs wr) := ⟨pre, by rw [hpre, hie], hJp⟩
      clear hie hpre hJp
      gi_wp2_with fail
      go_end0
      exact ⟨⟨_, rfl⟩, .inl HF.out⟩
end Go.Proofs.Ytaflpeajapdkdaa
