import Derived.Test.YtaflpeajapdkdaaM4
import Derived.Lib.AppendStr
import Derived.Lib.ItoaNum
import Derived.Lib.OthersKept
import Derived.Lib.RuneBytes
namespace Go.Proofs.Ytaflpeajapdkdaa
open Go.RowKit
set_option linter.unusedVariables false
set_option linter.unusedSimpArgs false

theorem Try.infoB : (Try.prog.info? 5).map (fun i => (i.zero, i.size, i.bytes)) = some (some (.int .u8 0), 1, 1) := by kernel_rfl
theorem own_base {w : World} {base : Nat} {e : TypeId} {size : Nat} {v : Value} {n : Nat} {xs : List Value} (h : w.ownsRow base e size v n xs) : ∀ k, v.ownBlock = some k → base ≤ k := by
  intro k hk
  obtain ⟨_, ⟨rfl, _⟩ | ⟨g, cap, cur, rfl, hg, _⟩⟩ := h
  · cases hk
  · simp [Value.ownBlock] at hk; omega
theorem own_shape {w : World} {base : Nat} {e : TypeId} {size : Nat} {v : Value} {n : Nat} {xs : List Value} (h : w.ownsRow base e size v n xs) : ∃ ao cap, v = .slice ao n cap := by
  rcases h.2 with ⟨e, e2⟩ | ⟨g, cap, cur, e, _⟩
  · exact ⟨none, 0, by rw [e, e2]⟩
  · exact ⟨_, _, e⟩
theorem own_some {w : World} {base n : Nat} {v : Value} {xs : List Value} (h : w.ownsRow base 5 1 v n xs) (hn : 0 < n) : ∃ g cap, v = .slice (some ⟨g, 0, none⟩) n cap := by
  rcases h.2 with ⟨e, e2⟩ | ⟨g, cap, cur, e, _⟩
  · omega
  · exact ⟨g, cap, e⟩
theorem below_app {B : Nat} {w wr w1 : World} {e : TypeId} {size : Nat} {v : Value} {n : Nat} {xs : List Value} {o : Obj} (hown : wr.ownsRow B e size v n xs) (hBw : B ≤ wr.heap.size) (hb : Below B w wr) (hg : (wr.alloc o).grownBy w1 v.ownBlock) : Below B w w1 :=
  (hb.alloc hBw o).grown hg (by simp; omega) (own_base hown)
theorem bytes_conv {wr : World} {base n cap g : Nat} {l : List UInt8} (h1 : l.length = n) (h3 : wr.ownsRow base 5 1 (.slice (some ⟨g, 0, none⟩) n cap) n (Lib.byteCells l)) : (convert 56 9 (.slice (some ⟨g, 0, none⟩) n cap)).run Try.prog wr = .ok (.string ⟨l.toArray⟩) wr := by
  subst h1
  refine run_convert_bytes_back (P := Try.prog) wr 56 9 5 ⟨g, 0, none⟩ cap l Try.underlying56 Try.underlying5 Try.underlying9 (fun j hj => ?_)
  have := h3.cellAt j (by omega)
  have e : (⟨g, 0, none⟩ : Addr).add j = ⟨g, j, none⟩ := by
    unfold Addr.add; by_cases h0 : j = 0 <;> simp [h0]
  rw [e, this]
  simp [Lib.byteCells, hj]

/-- a new row of bytes, all of it room -/
def brow (m : Nat) : Obj := .cells (madeCells #[.int .u8 0] m) 5 (0, 0)
theorem run_make_bytes (m : Nat) (z : Int) (hz : z = (m : Int)) (hn : m ≤ 140737488355328) (u : World) : (Instr.makeSlice 56 (.int .i64 0) (.int .i64 z)).run Try.prog u = .ok (.slice (some ⟨u.heap.size, 0, none⟩) 0 m) (u.alloc (brow m)) := by
  subst hz
  obtain ⟨i0, hi, hz0, hz1, hz2⟩ := info_parts Try.infoB
  have h := run_make (P := Try.prog) u 56 5 i0 (.int .u8 0) Try.underlying56 hi hz0 .i64 .i64 0 (m : Int) (by omega) (by omega) (by rw [hz2]; omega) (by omega)
  have e : ((m : Int)).toNat = m := by omega
  rw [e] at h
  simpa [hz1, Value.cells, brow] using h
theorem own_bytes (w : World) (m : Nat) (hm : m ≤ 140737488355328) : (w.alloc (brow m)).ownsRow w.heap.size 5 1 (.slice (some ⟨w.heap.size, 0, none⟩) 0 m) 0 (Lib.byteCells []) :=
  ⟨rfl, Or.inr ⟨w.heap.size, m, madeCells #[.int .u8 0] m, rfl, Nat.le_refl _, heap_alloc_new w _, Nat.zero_le _, by unfold maxLen; omega, by rw [size_madeCells, Nat.mul_one], rfl⟩⟩

/-- a call that appends bytes to a row of the caller's own -/
def AppR (B : Nat) (v : Value) (w w' : World) (e : Ending) (n : Nat) (l : List UInt8) : Prop := ∃ ao cap, e = .returned (.slice ao n cap) ∧ w'.ownsRow B 5 1 (.slice ao n cap) n (Lib.byteCells l) ∧ Below B w w' ∧ w.grownBy w' v.ownBlock

theorem grown_trans {a b c : World} {r : Option Nat} (h : a.grownBy b r) (k : b.grownBy c r) : a.grownBy c r :=
  ⟨k.os.trans h.os, k.tape.trans h.tape, k.output.trans h.output, Nat.le_trans h.size k.size, fun i hi hr => (k.block i (Nat.lt_of_lt_of_le hi h.size) hr).trans (h.block i hi hr)⟩
theorem grown_after {w w1 : World} {o : Obj} {r : Option Nat} (h : (w.alloc o).grownBy w1 r) : w.grownBy w1 r := grown_trans (World.grownBy_alloc w o r) h
theorem own_ne_iter {w : World} {B e size n : Nat} {v : Value} {xs : List Value} {k : Nat} {s : ByteArray} {pos : Nat} (h : w.ownsRow B e size v n xs) (hk : w.heap[k]? = some (.stringIter s pos)) : some k ≠ v.ownBlock := by
  rcases h.2 with ⟨rfl, _⟩ | ⟨g, cap, cur, rfl, hb, hg, rest⟩
  · simp [Value.ownBlock]
  · intro e
    simp only [Value.ownBlock, Option.some.injEq] at e
    subst e
    rw [hk] at hg
    cases hg
theorem own_iterAt {w : World} {B e size n : Nat} {v : Value} {xs : List Value} {k : Nat} {s : ByteArray} {pos : Nat} (h : w.ownsRow B e size v n xs) (hk : w.heap[k]? = some (.stringIter s pos)) (pos' : Nat) : (w.iterAt k s pos').ownsRow B e size v n xs := by
  refine ⟨h.1, ?_⟩
  rcases h.2 with h0 | ⟨g, cap, cur, hv, hb, hg, rest⟩
  · exact .inl h0
  · refine .inr ⟨g, cap, cur, hv, hb, ?_, rest⟩
    rw [Lib.iterAt_other _ _ _ _ _ (fun e => by subst e; rw [hk] at hg; cases hg)]
    exact hg
theorem iter_kept {w w' : World} {B e size n : Nat} {v : Value} {xs : List Value} {k : Nat} {s : ByteArray} {pos : Nat} (h : w.ownsRow B e size v n xs) (hk : w.heap[k]? = some (.stringIter s pos)) (hg : w.grownBy w' v.ownBlock) : w'.heap[k]? = some (.stringIter s pos) := by
  rw [hg.block k (Array.getElem?_eq_some_iff.1 hk).1 (own_ne_iter h hk)]; exact hk
theorem nxtAt (w : World) (k : Nat) (s : ByteArray) (p : Nat) (r q : Nat) (hk : w.heap[k]? = some (.stringIter s p)) (h : p < s.size) (hd : Utf8.decode s p = (r, q - p)) (hq : p ≤ q) (ty : TypeId) :
    (Instr.next (.pointer (some ⟨k, 0, none⟩)) true ty).run Try.prog w = .ok (.tuple #[.bool true, .int .i64 (p : Int), .int .i32 (r : Int)]) (w.iterAt k s q) := by
  have := Lib.run_next_any_at (P := Try.prog) w k s p ty hk h
  rw [hd, show p + (q - p) = q by omega] at this
  exact this

theorem numAt_fixed : NumAt ⟨#[34, 92, 117, 48, 48, 101, 57, 34]⟩ 1 [48, 48, 101, 57] := ⟨rfl, by decide, [34], [34], rfl, rfl⟩
end Go.Proofs.Ytaflpeajapdkdaa
