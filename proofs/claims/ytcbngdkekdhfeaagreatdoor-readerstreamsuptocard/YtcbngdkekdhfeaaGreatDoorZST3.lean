import Derived.Test.YtcbngdkekdhfeaaGreatDoorZST2
import Derived.Test.YtcbngdkekdhfeaaGreatDoorZRR19
namespace Go.Proofs.YtcbngdkekdhfeaaGreatDoor
open Go.RowKit Go.Shelf Go.Sort
set_option linter.unusedVariables false
set_option linter.unusedSimpArgs false
attribute [local go_sem] Oper.semAt_some

theorem roundIn_any {m m' : Nat} {P : Program} {l : Nat} {f : FuncId} {tmps : Array Value} {assign body : Code} {w : World} {R : Ending → World → Prop}
    (h : RoundIn Fence.wide m P l f tmps assign body w R) : RoundIn Fence.wide m' P l f tmps assign body w R := ⟨h.1, fun c cs _ => h.2 c cs (fun d hd => by cases hd)⟩
theorem yieldAt_any {m m' : Nat} {P : Program} {l : Nat} {args : Array Value} {W : World} {R : Ending → World → Prop} (h : YieldAt Fence.wide m P l args W R) : YieldAt Fence.wide m' P l args W R := by
  obtain ⟨fn, tmps, assign, body, hy, hR⟩ := h
  exact ⟨fn, tmps, assign, body, hy, roundIn_any hR⟩
theorem cells_ownS {C : Nat} {A A' : World} {row : Option Nat} (hg : A.grownBy A' row) (hr : ∀ r, row = some r → C ≤ r ∧ ∃ o : Obj, A.heap[r]? = some o ∧ o.isCells = false) {b : Nat} {cs : Array Value} {t : TypeId} {f : Nat × Nat} (hb : A.heap[b]? = some (.cells cs t f)) : A'.heap[b]? = some (.cells cs t f) := by
  rw [hg.block b (Array.getElem?_eq_some_iff.1 hb).1 (fun e => by
    obtain ⟨_, o, ho, hoc⟩ := hr b e.symm
    rw [hb] at ho; cases ho; cases hoc)]
  exact hb
theorem box_setS {W : World} {B : Nat} {t : TypeId} {y : Value} (v : Value) (h : W.heap[B]? = some (.cells #[y] t (0, 0))) : (W.setCell ⟨B, 0, none⟩ v).heap[B]? = some (.cells #[v] t (0, 0)) := by
  show (W.heap.modify B _)[B]? = _
  rw [Array.getElem?_modify, if_pos rfl, h]; rfl
theorem rf_blockS {F : Fence} {n : Nat} {P : Program} {id : Nat} {c : Code} {Q0 : Exit → Act → World → Prop} {a : Act} {w : World} {M : Nat → World → Prop}
    (h : c.wpIn F n P (fun e a' W => (e = .normal ∨ e = .exit id) ∧ ∃ D, a' = { a with defers := { target := .collected D, args := #[] } :: a.defers } ∧ M D W) a w)
    (hM : ∀ D W, M D W → Q0 .normal { a with defers := { target := .collected D, args := #[] } :: a.defers } W) : c.wpIn F n P (Exit.inBlock id Q0) a w := by
  refine wpIn_mono h ?_
  rintro e a' W ⟨rfl | rfl, D, rfl, hm⟩
  · exact hM D W hm
  · simp [Exit.inBlock]; exact hM D W hm
theorem KIn.cells {W W' : World} (hz : W.heap.size ≤ W'.heap.size) (hc : ∀ a v, W.cell? a = some v → W'.cell? a = some v) {ko : Option Addr} {ks : List ByteArray} (h : KIn W ko ks) : KIn W' ko ks := by
  refine ⟨fun h0 => ?_⟩
  obtain ⟨b, off, e, hl, hk⟩ := h.row h0
  exact ⟨b, off, e, Nat.lt_of_lt_of_le hl hz, fun i hi => hc _ _ (hk i hi)⟩
theorem InH.cells {W W' : World} (hz : W.heap.size ≤ W'.heap.size) (hc : ∀ a v, W.cell? a = some v → W'.cell? a = some v) : ∀ {h : Nat} {T : VT} {v : Value}, InH W h T v → InH W' h T v
  | 0, _, _, h => h
  | h + 1, T, v, hI => by
    obtain ⟨io, icap, ko, kcap, e, a1, a2, a3, a4, a5, a6, a7, hk, hi⟩ := hI
    refine ⟨io, icap, ko, kcap, e, a1, a2, a3, a4, a5, a6, a7, hk.cells hz hc, fun h0 => ?_⟩
    obtain ⟨b, off, e2, hl, hcc⟩ := hi h0
    refine ⟨b, off, e2, Nat.lt_of_lt_of_le hl hz, fun i hil => ?_⟩
    obtain ⟨v0, v1, v2, v3, v4, ⟨c0, c1, c2, c3, c4⟩, ht⟩ := hcc i hil
    exact ⟨v0, v1, v2, v3, v4, ⟨hc _ _ c0, hc _ _ c1, hc _ _ c2, hc _ _ c3, hc _ _ c4⟩, InH.cells hz hc ht⟩
theorem InH.own {W W' : World} {h : Nat} {T : VT} {v : Value} {C : Nat} {row : Option Nat} (hI : InH W h T v) (hg : W.grownBy W' row) (hr : ∀ r, row = some r → C ≤ r ∧ ∃ o : Obj, W.heap[r]? = some o ∧ o.isCells = false) : InH W' h T v :=
  hI.cells hg.size (fun a v hv => cell_kept hv hg (fun r e => (hr r e).2))

def SmI (V : World) (AB : Nat) (pre : List (VT × Value)) (W : World) : Prop := W.heap[AB]? = some (.cells #[.int .i64 (pre.length : Int)] 3 (0, 0)) ∧ Below AB V W
theorem SmI.low {V : World} {AB B : Nat} (hB : AB < B) (hV : AB ≤ V.heap.size) : LowOf B (SmI V AB) := by
  rintro xs W W' ⟨h1, hb⟩ o t u sz blk
  have hl := (Array.getElem?_eq_some_iff.1 h1).1
  exact ⟨(blk AB hB hl).trans h1, ⟨o.trans hb.os, t.trans hb.tape, u.trans hb.output, Nat.le_trans hb.size sz, fun k hk => (blk k (by omega) (by omega)).trans (hb.block k hk)⟩⟩
def SmX (V : World) (AB : Nat) (stop : Int) (id : Nat) (c : Code) (pre : List (VT × Value)) (W : World) : Prop := c = .exit id ∧ (pre.length : Int) = stop ∧ SmI V AB pre W
theorem SmX.low {V : World} {AB B : Nat} {stop : Int} {id : Nat} (hB : AB < B) (hV : AB ≤ V.heap.size) (c : Code) : LowOf B (SmX V AB stop id c) := by
  rintro xs W W' ⟨h1, h2, h3⟩ o t u sz blk
  exact ⟨h1, h2, SmI.low hB hV xs W W' h3 o t u sz blk⟩
theorem kpV_below {lo : Nat} {W W' : World} (h : Below W.heap.size W W') : KpV lo W W' := ⟨h.os, h.tape, h.output, h.size, fun b _ g2 => h.block b g2⟩
theorem kpV_put {lo l : Nat} (W : World) (o : Obj) (h1 : l < lo) (h2 : l ≠ 3) : KpV lo W (W.putObj l o) := by
  refine ⟨rfl, rfl, rfl, ?_, fun b g1 g2 => World.putObj_heap_other ?_⟩
  · simp [World.putObj]
  · rcases g1 with g1 | g1 <;> omega
theorem kpV_set {lo B : Nat} {W W' : World} (h : KpV lo W W') (v : Value) (h1 : B < lo) (h2 : B ≠ 3) : KpV lo W (W'.setCell ⟨B, 0, none⟩ v) := by
  refine ⟨h.os, h.tape, h.output, by rw [World.size_setCell]; exact h.size, fun b g1 g2 => (Below.heap_setCell _ _ _ _ (by show b ≠ B; rcases g1 with g1 | g1 <;> omega)).trans (h.block b g1 g2)⟩
theorem KpV.wider {lo lo' : Nat} {W W' : World} (h : KpV lo W W') (hl : lo ≤ lo') : KpV lo' W W' := ⟨h.os, h.tape, h.output, h.size, fun b g1 g2 => h.block b (g1.imp (fun g => by omega) id) g2⟩
structure GvB (W : World) (Bx : Nat) (x : VT × Value) (k : Int) (n t : ByteArray) (io : Option Addr) (a ic : Nat) (ko : Option Addr) (b kc : Nat) : Prop where
  box : W.heap[Bx]? = some (.cells #[.int .i64 k, .string n, .string t, .slice io a ic, .slice ko b kc] 27 (0, 0))
  is_ : x.2 = .agg #[.int .i64 k, .string n, .string t, .slice io a ic, .slice ko b kc]
  tree : InH W 65 x.1 x.2
structure SmAt (w W : World) (g N sc : Nat) (so : Option Addr) (stop : Int) (xs : List VT) (s : ByteArray) : Prop where
  below : Below w.heap.size w W
  lo : w.heap.size + 2 ≤ g
  cM : W.heap[w.heap.size]? = some (.cells #[.int .i64 stop] 3 (0, 0))
  cR : W.heap[w.heap.size + 1]? = some (.cells #[.bool false] 4 (0, 0))
  cW : W.heap[g]? = some (.cells #[.slice so N sc] 24 (0, 0))
  cS : W.heap[g + 1]? = some (.cells #[.string s] 9 (0, 0))
  len : xs.length = N
  row : VRw W 65 xs so
  cap : N ≤ sc
theorem SmAt.keep {w W W' : World} {g N sc : Nat} {so : Option Addr} {stop : Int} {xs : List VT} {s : ByteArray} (h : SmAt w W g N sc so stop xs s) (hb : Below W.heap.size W W') : SmAt w W' g N sc so stop xs s := by
  have lt := fun {b : Nat} {o : Obj} (h : W.heap[b]? = some o) => heap_lowT hb (Array.getElem?_eq_some_iff.1 h).1 h
  exact ⟨h.below.trans (hb.mono h.below.size), h.lo, lt h.cM, lt h.cR, lt h.cW, lt h.cS, h.len, h.row.keep hb, h.cap⟩
theorem pre_atS {ts : List VT} {pre : List (VT × Value)} {x : VT × Value} (h : (pre ++ [x]).map (·.1) <+: ts) : ∃ h : pre.length < ts.length, ts[pre.length] = x.1 := by
  obtain ⟨r, rfl⟩ := h
  simp
structure SmB (W : World) (AB RB gm gw : Nat) (j r stop : Int) (so : Option Addr) (N sc : Nat) : Prop where
  at_ : W.heap[AB]? = some (.cells #[.int .i64 j] 3 (0, 0))
  rd : W.heap[RB]? = some (.cells #[.int .i64 r] 3 (0, 0))
  mo : W.heap[gm]? = some (.cells #[.int .i64 stop] 3 (0, 0))
  wa : W.heap[gw]? = some (.cells #[.slice so N sc] 24 (0, 0))
theorem SmB.keep {W W' : World} {AB RB gm gw : Nat} {j r stop : Int} {so : Option Addr} {N sc : Nat} (h : SmB W AB RB gm gw j r stop so N sc) (hb : Below W.heap.size W W') : SmB W' AB RB gm gw j r stop so N sc := by
  have lt := fun {b : Nat} {o : Obj} (h : W.heap[b]? = some o) => heap_lowT hb (Array.getElem?_eq_some_iff.1 h).1 h
  exact ⟨lt h.at_, lt h.rd, lt h.mo, lt h.wa⟩
theorem SmB.cells {W : World} {AB RB gm gw : Nat} {j r stop : Int} {so : Option Addr} {N sc : Nat} (h : SmB W AB RB gm gw j r stop so N sc) :
    W.cell? ⟨AB, 0, none⟩ = some (.int .i64 j) ∧ W.frozen? ⟨AB, 0, none⟩ = false ∧ W.cell? ⟨RB, 0, none⟩ = some (.int .i64 r) ∧ W.cell? ⟨gm, 0, none⟩ = some (.int .i64 stop) ∧ W.cell? ⟨gw, 0, none⟩ = some (.slice so N sc) := by
  refine ⟨?_, frozen_rowT (j := 0) h.at_, ?_, ?_, ?_⟩
  · rw [cell_of_row _ _ 0 _ _ _ h.at_]; rfl
  · rw [cell_of_row _ _ 0 _ _ _ h.rd]; rfl
  · rw [cell_of_row _ _ 0 _ _ _ h.mo]; rfl
  · rw [cell_of_row _ _ 0 _ _ _ h.wa]; rfl

set_option maxRecDepth 100000 in
set_option maxHeartbeats 1000000 in
theorem w_Values (s : ByteArray) (w : World) : Calls Tryz.prog 11 #[.string s] w fun e w' => e = .returned (.func (.func 28) #[] #[.pointer (some ⟨w.heap.size, 0, none⟩)]) ∧ w' = w.alloc (.cells #[.string s] 9) := by
  have hmf : ∀ (fn : Fn) (first cap : Array Value) (w : World), (Instr.makeFunc fn first cap).run Tryz.prog w = .ok (.func fn first cap) w := fun _ _ _ _ => rfl
  go_enter Tryz.func11, Tryz.ntmps11
  go_wp2_with fail
  go_ret
  exact ⟨rfl, rfl⟩

theorem run_seqNilS (lb : Array Value) (u : World) : (binOp .eql 35 (.func (.func 28) #[] lb) .nilFunc).run Tryz.prog u = .ok (.bool false) u := by
  kernel_rfl

theorem w_5ManyS (s : ByteArray) (ss : s.size ≤ 1048576) (xs : List VT) (hx : (eachL s.data.toList (vL s) (s.size + 1) [] 0).1 = xs) (w : World) : Calls Tryz.prog 10 #[.string s] w fun e w' => Below w.heap.size w w' ∧ ∃ v0 v1 v2 io k cap, e = .returned (.tuple #[v0, v1, v2, .slice io k cap]) ∧ VRw w' 65 xs io ∧ xs.length = k ∧ k ≤ cap := by
  refine (w_5Many s ss 64 (vL s) (rdC5 ss) (vL_up (by omega)) w).mono ?_
  rintro e w' ⟨hb, k, io, cap, c, hM, hway⟩
  obtain ⟨hV, hc⟩ := VRw.of hM.len hM.own hM.trees
  rw [hx] at hV
  have hl := hM.len
  rw [hx] at hl
  refine ⟨hb, ?_⟩
  rcases hway with ⟨_, rfl⟩ | ⟨_, g, rfl⟩
  · exact ⟨_, _, _, io, k, cap, rfl, hV, hl, hc⟩
  · exact ⟨_, _, _, io, k, cap, rfl, hV, hl, hc⟩
end Go.Proofs.YtcbngdkekdhfeaaGreatDoor
