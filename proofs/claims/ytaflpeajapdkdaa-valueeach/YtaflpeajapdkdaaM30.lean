import Derived.Test.YtaflpeajapdkdaaM28
import Derived.Test.YtaflpeajapdkdaaM29
namespace Go.Proofs.Ytaflpeajapdkdaa
open Go.RowKit Go.Maps Go.Sort Go.Shelf
set_option linter.unusedVariables false
set_option linter.unusedSimpArgs false
attribute [local go_sem] Oper.semAt_some

/-- all cells below m but one box are as they were -/
structure KpM (m B : Nat) (W W' : World) : Prop where
  os : W'.os = W.os
  tape : W'.tape = W.tape
  output : W'.output = W.output
  size : W.heap.size ≤ W'.heap.size
  same : ∀ b o, b < m → b ≠ B → W.heap[b]? = some o → o.isCells = true → W'.heap[b]? = some o
theorem KpM.trans {m B : Nat} {X Y Z : World} (h : KpM m B X Y) (k : KpM m B Y Z) : KpM m B X Z :=
  ⟨k.os.trans h.os, k.tape.trans h.tape, k.output.trans h.output, Nat.le_trans h.size k.size, fun b o hm hb ho hc => k.same b o hm hb (h.same b o hm hb ho hc) hc⟩
theorem KpM.of_below {m B n : Nat} {W W' : World} (hb : Below n W W') (hm : m ≤ n) : KpM m B W W' :=
  ⟨hb.os, hb.tape, hb.output, hb.size, fun b o hbm _ ho _ => (hb.block b (by omega)).trans ho⟩
theorem KpN.after {m B : Nat} {X Y Z : World} (hb : Below X.heap.size X Y) (k : KpM m B Y Z) (hm : X.heap.size ≤ m) : KpN B X Z :=
  ⟨k.os.trans hb.os, k.tape.trans hb.tape, k.output.trans hb.output, Nat.le_trans hb.size k.size, fun b o hbB ho hc => by
    have hl := (Array.getElem?_eq_some_iff.1 ho).1
    exact k.same b o (by omega) hbB ((hb.block b hl).trans ho) hc⟩
theorem InF.keepN {lo B : Nat} {W W' : World} (hk : KpN B W W') (hlo : B < lo) : ∀ {h : Nat} {T : VT} {v : Value}, InF lo W h T v → InF lo W' h T v
  | 0, _, _, h => h
  | h + 1, T, v, hI => by
    obtain ⟨io, icap, ko, kcap, e, a1, a2, a3, a4, a5, a6, a7, hk1, hi⟩ := hI
    refine ⟨io, icap, ko, kcap, e, a1, a2, a3, a4, a5, a6, a7, fun h0 => ?_, fun h0 => ?_⟩
    · obtain ⟨b, off, e2, hb, hl, hc⟩ := hk1 h0
      exact ⟨b, off, e2, hb, Nat.lt_of_lt_of_le hl hk.size, fun i hi => hk.cell (by omega) (hc i hi)⟩
    · obtain ⟨b, off, e2, hb, hl, hc⟩ := hi h0
      refine ⟨b, off, e2, hb, Nat.lt_of_lt_of_le hl hk.size, fun i hi => ?_⟩
      obtain ⟨v0, v1, v2, v3, v4, ⟨c0, c1, c2, c3, c4⟩, ht⟩ := hc i hi
      exact ⟨v0, v1, v2, v3, v4, ⟨hk.cell (by omega) c0, hk.cell (by omega) c1, hk.cell (by omega) c2, hk.cell (by omega) c3, hk.cell (by omega) c4⟩, InF.keepN hk hlo ht⟩

/-- what Each's iterator hands out: which item, the cells of its copy, and the block from which on the copy lies -/
abbrev EX (N : Nat) := { i : Nat // i < N } × (Fin 5 → Value) × Nat
def encE (K : Nat) (ky : Nat → ByteArray) {N : Nat} (x : EX N) : Array Value := #[.string (kyF K ky x.1.1), .agg #[x.2.1 0, x.2.1 1, x.2.1 2, x.2.1 3, x.2.1 4]]
def EAt (h lo : Nat) (ts : List VT) {N : Nat} (x : EX N) (W : World) : Prop := lo ≤ x.2.2 ∧ x.2.2 ≤ W.heap.size ∧ ∃ T, ts[x.1.1]? = some T ∧ InO x.2.2 W h T (.agg #[x.2.1 0, x.2.1 1, x.2.1 2, x.2.1 3, x.2.1 4])
theorem grown_below {W W' : World} (h : Below W.heap.size W W') : W.grownBy W' none := ⟨h.os, h.tape, h.output, h.size, fun b hb _ => h.block b hb⟩

end Go.Proofs.Ytaflpeajapdkdaa
