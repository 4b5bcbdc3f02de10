import Derived.Test.YtdmkfdaddacdhaaGreatDoorM4
import Derived.Lib.AppendStr
import Derived.Lib.ItoaNum
import Derived.Lib.OthersKept
import Derived.Lib.RuneBytes
namespace Go.Proofs.YtdmkfdaddacdhaaGreatDoor
open Go.RowKit
set_option linter.unusedVariables false
set_option linter.unusedSimpArgs false

theorem Tryz.infoB : (Tryz.prog.info? 5).map (fun i => (i.zero, i.size, i.bytes)) = some (some (.int .u8 0), 1, 1) := by kernel_rfl
theorem own_base {w : World} {base : Nat} {e : TypeId} {size : Nat} {v : Value} {n : Nat} {xs : List Value} (h : w.ownsRow base e size v n xs) : ∀ k, v.ownBlock = some k → base ≤ k := by
  intro k hk
  obtain ⟨_, ⟨rfl, _⟩ | ⟨g, cap, cur, rfl, hg, _⟩⟩ := h
  · cases hk
  · simp [Value.ownBlock] at hk; omega
theorem own_shape {w : World} {base : Nat} {e : TypeId} {size : Nat} {v : Value} {n : Nat} {xs : List Value} (h : w.ownsRow base e size v n xs) : ∃ ao cap, v = .slice ao n cap := by
  rcases h.2 with ⟨e, e2⟩ | ⟨g, cap, cur, e, _⟩
  · exact ⟨none, 0, by rw [e, e2]⟩
  · exact ⟨_, _, e⟩
theorem own_some {w : World} {base n : Nat} {v : Value} {xs : List Value} (h : w.ownsRow base 5 1 v n xs) (hn : 0 < n) : ∃ g cap, v = .slice (some ⟨g, 0, none⟩) n cap := by
  rcases h.2 with ⟨e, e2⟩ | ⟨g, cap, cur, e, _⟩
  · omega
  · exact ⟨g, cap, e⟩
theorem below_app {B : Nat} {w wr w1 : World} {e : TypeId} {size : Nat} {v : Value} {n : Nat} {xs : List Value} {o : Obj} (hown : wr.ownsRow B e size v n xs) (hBw : B ≤ wr.heap.size) (hb : Below B w wr) (hg : (wr.alloc o).grownBy w1 v.ownBlock) : Below B w w1 :=
  (hb.alloc hBw o).grown hg (by simp; omega) (own_base hown)
theorem bytes_conv {wr : World} {base n cap g : Nat} {l : List UInt8} (h1 : l.length = n) (h3 : wr.ownsRow base 5 1 (.slice (some ⟨g, 0, none⟩) n cap) n (Lib.byteCells l)) : (convert 85 9 (.slice (some ⟨g, 0, none⟩) n cap)).run Tryz.prog wr = .ok (.string ⟨l.toArray⟩) wr := by
  subst h1
  refine run_convert_bytes_back (P := Tryz.prog) wr 85 9 5 ⟨g, 0, none⟩ cap l Tryz.underlying85 Tryz.underlying5 Tryz.underlying9 (fun j hj => ?_)
  have := h3.cellAt j (by omega)
  have e : (⟨g, 0, none⟩ : Addr).add j = ⟨g, j, none⟩ := by
    unfold Addr.add; by_cases h0 : j = 0 <;> simp [h0]
  rw [e, this]
  simp [Lib.byteCells, hj]

/-- a new row of bytes, all of it room -/
def brow (m : Nat) : Obj := .cells (madeCells #[.int .u8 0] m) 5 (0, 0)
theorem run_make_bytes (m : Nat) (z : Int) (hz : z = (m : Int)) (hn : m ≤ 140737488355328) (u : World) : (Instr.makeSlice 85 (.int .i64 0) (.int .i64 z)).run Tryz.prog u = .ok (.slice (some ⟨u.heap.size, 0, none⟩) 0 m) (u.alloc (brow m)) := by
  subst hz
  obtain ⟨i0, hi, hz0, hz1, hz2⟩ := info_parts Tryz.infoB
  have h := run_make (P := Tryz.prog) u 85 5 i0 (.int .u8 0) Tryz.underlying85 hi hz0 .i64 .i64 0 (m : Int) (by omega) (by omega) (by rw [hz2]; omega) (by omega)
  have e : ((m : Int)).toNat = m := by omega
  rw [e] at h
  simpa [hz1, Value.cells, brow] using h
theorem own_bytes (w : World) (m : Nat) (hm : m ≤ 140737488355328) : (w.alloc (brow m)).ownsRow w.heap.size 5 1 (.slice (some ⟨w.heap.size, 0, none⟩) 0 m) 0 (Lib.byteCells []) :=
  ⟨rfl, Or.inr ⟨w.heap.size, m, madeCells #[.int .u8 0] m, rfl, Nat.le_refl _, heap_alloc_new w _, Nat.zero_le _, by unfold maxLen; omega, by rw [size_madeCells, Nat.mul_one], rfl⟩⟩

/-- a call that appends bytes to a row of the caller's own -/
def AppR (B : Nat) (v : Value) (w w' : World) (e : Ending) (n : Nat) (l : List UInt8) : Prop := ∃ ao cap, e = .returned (.slice ao n cap) ∧ w'.ownsRow B 5 1 (.slice ao n cap) n (Lib.byteCells l) ∧ Below B w w' ∧ w.grownBy w' v.ownBlock

theorem grown_trans {a b c : World} {r : Option Nat} (h : a.grownBy b r) (k : b.grownBy c r) : a.grownBy c r :=
  ⟨k.os.trans h.os, k.tape.trans h.tape, k.output.trans h.output, Nat.le_trans h.size k.size, fun i hi hr => (k.block i (Nat.lt_of_lt_of_le hi h.size) hr).trans (h.block i hi hr)⟩
theorem grown_after {w w1 : World} {o : Obj} {r : Option Nat} (h : (w.alloc o).grownBy w1 r) : w.grownBy w1 r := grown_trans (World.grownBy_alloc w o r) h
theorem own_ne_iter {w : World} {B e size n : Nat} {v : Value} {xs : List Value} {k : Nat} {s : ByteArray} {pos : Nat} (h : w.ownsRow B e size v n xs) (hk : w.heap[k]? = some (.stringIter s pos)) : some k ≠ v.ownBlock := by
  rcases h.2 with ⟨rfl, _⟩ | ⟨g, cap, cur, rfl, hb, hg, rest⟩
  · simp [Value.ownBlock]
  · intro e
    simp only [Value.ownBlock, Option.some.injEq] at e
    subst e
    rw [hk] at hg
    cases hg
theorem own_iterAt {w : World} {B e size n : Nat} {v : Value} {xs : List Value} {k : Nat} {s : ByteArray} {pos : Nat} (h : w.ownsRow B e size v n xs) (hk : w.heap[k]? = some (.stringIter s pos)) (pos' : Nat) : (w.iterAt k s pos').ownsRow B e size v n xs := by
  refine ⟨h.1, ?_⟩
  rcases h.2 with h0 | ⟨g, cap, cur, hv, hb, hg, rest⟩
  · exact .inl h0
  · refine .inr ⟨g, cap, cur, hv, hb, ?_, rest⟩
    rw [Lib.iterAt_other _ _ _ _ _ (fun e => by subst e; rw [hk] at hg; cases hg)]
    exact hg
theorem iter_kept {w w' : World} {B e size n : Nat} {v : Value} {xs : List Value} {k : Nat} {s : ByteArray} {pos : Nat} (h : w.ownsRow B e size v n xs) (hk : w.heap[k]? = some (.stringIter s pos)) (hg : w.grownBy w' v.ownBlock) : w'.heap[k]? = some (.stringIter s pos) := by
  rw [hg.block k (Array.getElem?_eq_some_iff.1 hk).1 (own_ne_iter h hk)]; exact hk
theorem nxtAt (w : World) (k : Nat) (s : ByteArray) (p : Nat) (r q : Nat) (hk : w.heap[k]? = some (.stringIter s p)) (h : p < s.size) (hd : Utf8.decode s p = (r, q - p)) (hq : p ≤ q) (ty : TypeId) :
    (Instr.next (.pointer (some ⟨k, 0, none⟩)) true ty).run Tryz.prog w = .ok (.tuple #[.bool true, .int .i64 (p : Int), .int .i32 (r : Int)]) (w.iterAt k s q) := by
  have := Lib.run_next_any_at (P := Tryz.prog) w k s p ty hk h
  rw [hd, show p + (q - p) = q by omega] at this
  exact this

theorem numAt_fixed : NumAt ⟨#[34, 92, 117, 48, 48, 101, 57, 34]⟩ 1 [48, 48, 101, 57] := ⟨rfl, by decide, [34], [34], rfl, rfl⟩

set_option maxRecDepth 100000 in
set_option maxHeartbeats 3200000 in
theorem f_Unquote (w : World) : Calls Tryz.prog 125 #[.string ⟨#[34, 92, 117, 48, 48, 101, 57, 34]⟩, .int .i64 0] w fun e w' => e = .returned (.tuple #[.string ⟨#[195, 169]⟩, .int .i64 8, .int .i64 0]) ∧ Below w.heap.size w w' := by
  have HP := Hid.mk (fun u => w_isPlace ⟨#[34, 92, 117, 48, 48, 101, 57, 34]⟩ 0 u (by decide))
  have HS := Hid.mk (fun u => w_stray_no ⟨#[34, 92, 117, 48, 48, 101, 57, 34]⟩ 1 92 u (by decide))
  have HE := Hid.mk (fun u => w_Escape_one ⟨#[34, 92, 117, 48, 48, 101, 57, 34]⟩ 1 [48, 48, 101, 57] u numAt_fixed (by decide) (by decide))
  rw [show ((hexN [48, 48, 101, 57] : Nat) : Int) = 233 by decide] at HE
  have h0 := fun ty => nxt w ⟨#[92, 117, 48, 48, 101, 57, 34]⟩ 0 92 1 ty (by decide) (by decide) (by decide)
  have hx : (ByteArray.mk #[34, 92, 117, 48, 48, 101, 57, 34]).extract 1 8 = ⟨#[92, 117, 48, 48, 101, 57, 34]⟩ := by decide
  have HI : Hid (Below w.heap.size w (w.iter ⟨#[92, 117, 48, 48, 101, 57, 34]⟩ 1)) := iter_below w _ _
  go_enter Tryz.func125, Tryz.ntmps125
  go_wp2_with fail
  refine (HP.out _).mono ?_
  rintro e w1 ⟨rfl, hw⟩
  obtain rfl := hw.symm
  go_wp2_with fail
  refine wp_loop_rounds 7 ?_
  rw [rounds_succ]
  go_wp2_with fail
  refine (HS.out _).mono ?_
  rintro e w1 ⟨rfl, hw⟩
  obtain rfl := hw.symm
  go_wp2_with fail
  refine (HE.out _).mono ?_
  rintro e w2 ⟨rfl, hb2⟩
  have hsz : w.heap.size + 1 ≤ w2.heap.size := by have := hb2.size; simpa [World.iter] using this
  have hk2 : w2.heap[w.heap.size]? = some (.stringIter ⟨#[92, 117, 48, 48, 101, 57, 34]⟩ 1) := by
    rw [hb2.block w.heap.size (by simp [World.iter])]
    exact World.iter_heap w _ 1
  have HB2 : Hid (Below w.heap.size w w2) := below_more HI.out hb2
  have HB2' : Hid (Below (w.heap.size + 1) w2 w2) := Below.refl _ _
  clear hb2
  go_wp2_with fail
  refine (Tryz.utf8_AppendRune_plain (w.heap.size + 1) (.slice none 0 0) 0 [] 233 (by decide) (by decide) w2 (World.ownsRow_nil _ _ _ _) (by decide) hsz).mono ?_
  rintro e w3 ⟨v3, rfl, hown3, o3, hg3⟩
  have hk3 : w3.heap[w.heap.size]? = some (.stringIter ⟨#[92, 117, 48, 48, 101, 57, 34]⟩ 1) := by
    rw [(grown_after hg3).block w.heap.size (by omega) (by simp [Value.ownBlock])]; exact hk2
  have hown3 : w3.ownsRow (w.heap.size + 1) 5 1 v3 2 (Lib.byteCells [195, 169]) := hown3
  have HB3 : Hid (Below w.heap.size w w3) := HB2.out.trans ((Below.refl w.heap.size w2).grown (grown_after hg3) (by omega) (fun k hk => by cases hk))
  obtain ⟨g3, c3, hv3⟩ := own_some hown3 (by decide)
  subst hv3
  have hown3 : w3.ownsRow (w.heap.size + 1) 5 1 (.slice (some ⟨g3, 0, none⟩) 2 c3) 2 (Lib.byteCells [195, 169]) := hown3
  clear hk2 hg3
  obtain ⟨W1, hW1⟩ : ∃ W : World, W = w3.iterAt w.heap.size ⟨#[92, 117, 48, 48, 101, 57, 34]⟩ 2 := ⟨_, rfl⟩
  have hn1 := nxtAt w3 w.heap.size ⟨#[92, 117, 48, 48, 101, 57, 34]⟩ 1 117 2 hk3 (by decide) (by decide) (by decide)
  have hk4 := Lib.iterAt_heap w3 w.heap.size ⟨#[92, 117, 48, 48, 101, 57, 34]⟩ 1 2 hk3
  have ho1 := own_iterAt hown3 hk3 2
  have hB1 := Lib.below_iterAt HB3.out (Nat.le_refl _) ⟨#[92, 117, 48, 48, 101, 57, 34]⟩ 2
  rw [← hW1] at hn1 hk4 ho1 hB1
  clear hW1
  obtain ⟨W2, hW2⟩ : ∃ W : World, W = W1.iterAt w.heap.size ⟨#[92, 117, 48, 48, 101, 57, 34]⟩ 3 := ⟨_, rfl⟩
  have hn2 := nxtAt W1 w.heap.size ⟨#[92, 117, 48, 48, 101, 57, 34]⟩ 2 48 3 hk4 (by decide) (by decide) (by decide)
  have hk5 := Lib.iterAt_heap W1 w.heap.size ⟨#[92, 117, 48, 48, 101, 57, 34]⟩ 2 3 hk4
  have ho2 := own_iterAt ho1 hk4 3
  have hB2 := Lib.below_iterAt hB1 (Nat.le_refl _) ⟨#[92, 117, 48, 48, 101, 57, 34]⟩ 3
  rw [← hW2] at hn2 hk5 ho2 hB2
  clear hW2
  obtain ⟨W3, hW3⟩ : ∃ W : World, W = W2.iterAt w.heap.size ⟨#[92, 117, 48, 48, 101, 57, 34]⟩ 4 := ⟨_, rfl⟩
  have hn3 := nxtAt W2 w.heap.size ⟨#[92, 117, 48, 48, 101, 57, 34]⟩ 3 48 4 hk5 (by decide) (by decide) (by decide)
  have hk6 := Lib.iterAt_heap W2 w.heap.size ⟨#[92, 117, 48, 48, 101, 57, 34]⟩ 3 4 hk5
  have ho3 := own_iterAt ho2 hk5 4
  have hB3 := Lib.below_iterAt hB2 (Nat.le_refl _) ⟨#[92, 117, 48, 48, 101, 57, 34]⟩ 4
  rw [← hW3] at hn3 hk6 ho3 hB3
  clear hW3
  obtain ⟨W4, hW4⟩ : ∃ W : World, W = W3.iterAt w.heap.size ⟨#[92, 117, 48, 48, 101, 57, 34]⟩ 5 := ⟨_, rfl⟩
  have hn4 := nxtAt W3 w.heap.size ⟨#[92, 117, 48, 48, 101, 57, 34]⟩ 4 101 5 hk6 (by decide) (by decide) (by decide)
  have hk7 := Lib.iterAt_heap W3 w.heap.size ⟨#[92, 117, 48, 48, 101, 57, 34]⟩ 4 5 hk6
  have ho4 := own_iterAt ho3 hk6 5
  have hB4 := Lib.below_iterAt hB3 (Nat.le_refl _) ⟨#[92, 117, 48, 48, 101, 57, 34]⟩ 5
  rw [← hW4] at hn4 hk7 ho4 hB4
  clear hW4
  obtain ⟨W5, hW5⟩ : ∃ W : World, W = W4.iterAt w.heap.size ⟨#[92, 117, 48, 48, 101, 57, 34]⟩ 6 := ⟨_, rfl⟩
  have hn5 := nxtAt W4 w.heap.size ⟨#[92, 117, 48, 48, 101, 57, 34]⟩ 5 57 6 hk7 (by decide) (by decide) (by decide)
  have hk8 := Lib.iterAt_heap W4 w.heap.size ⟨#[92, 117, 48, 48, 101, 57, 34]⟩ 5 6 hk7
  have ho5 := own_iterAt ho4 hk7 6
  have hB5 := Lib.below_iterAt hB4 (Nat.le_refl _) ⟨#[92, 117, 48, 48, 101, 57, 34]⟩ 6
  rw [← hW5] at hn5 hk8 ho5 hB5
  clear hW5
  obtain ⟨W6, hW6⟩ : ∃ W : World, W = W5.iterAt w.heap.size ⟨#[92, 117, 48, 48, 101, 57, 34]⟩ 7 := ⟨_, rfl⟩
  have hn6 := nxtAt W5 w.heap.size ⟨#[92, 117, 48, 48, 101, 57, 34]⟩ 6 34 7 hk8 (by decide) (by decide) (by decide)
  have hk9 := Lib.iterAt_heap W5 w.heap.size ⟨#[92, 117, 48, 48, 101, 57, 34]⟩ 6 7 hk8
  have ho6 := own_iterAt ho5 hk8 7
  have hB6 := Lib.below_iterAt hB5 (Nat.le_refl _) ⟨#[92, 117, 48, 48, 101, 57, 34]⟩ 7
  rw [← hW6] at hn6 hk9 ho6 hB6
  clear hW6
  have HB6 := Hid.mk hB6
  have hcv := bytes_conv (n := 2) (l := [195, 169]) rfl ho6
  clear hB1 hB2 hB3 hB4 hB5 hB6 ho1 ho2 ho3 ho4 ho5 ho6 hk3 hk4 hk5 hk6 hk7 hk8 hk9 hown3
  go_wp2_with fail
  rw [rounds_succ]
  go_wp2_with fail
  rw [rounds_succ]
  go_wp2_with fail
  rw [rounds_succ]
  go_wp2_with fail
  rw [rounds_succ]
  go_wp2_with fail
  rw [rounds_succ]
  go_wp2_with fail
  rw [rounds_succ]
  go_wp2_with fail
  refine bodyPost_ret (v := .tuple #[.string ⟨#[195, 169]⟩, .int .i64 8, .int .i64 0]) (by simp [results, Tryz.results125, go_sem]) rfl ?_
  exact ⟨rfl, HB6.out⟩
end Go.Proofs.YtdmkfdaddacdhaaGreatDoor
