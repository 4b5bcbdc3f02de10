import Derived.Test.YtcadknhedfnaoaaGreatDoorM4
import Derived.Lib.AppendStr
import Derived.Lib.ItoaNum
import Derived.Lib.OthersKept
import Derived.Lib.RuneBytes
namespace Go.Proofs.YtcadknhedfnaoaaGreatDoor
open Go.RowKit
set_option linter.unusedVariables false
set_option linter.unusedSimpArgs false

theorem Tryz.infoB : (Tryz.prog.info? 5).map (fun i => (i.zero, i.size, i.bytes)) = some (some (.int .u8 0), 1, 1) := by kernel_rfl
theorem own_base {w : World} {base : Nat} {e : TypeId} {size : Nat} {v : Value} {n : Nat} {xs : List Value} (h : w.ownsRow base e size v n xs) : ∀ k, v.ownBlock = some k → base ≤ k := by
  intro k hk
  obtain ⟨_, ⟨rfl, _⟩ | ⟨g, cap, cur, rfl, hg, _⟩⟩ := h
  · cases hk
  · simp [Value.ownBlock] at hk; omega
theorem own_shape {w : World} {base : Nat} {e : TypeId} {size : Nat} {v : Value} {n : Nat} {xs : List Value} (h : w.ownsRow base e size v n xs) : ∃ ao cap, v = .slice ao n cap := by
  rcases h.2 with ⟨e, e2⟩ | ⟨g, cap, cur, e, _⟩
  · exact ⟨none, 0, by rw [e, e2]⟩
  · exact ⟨_, _, e⟩
theorem own_some {w : World} {base n : Nat} {v : Value} {xs : List Value} (h : w.ownsRow base 5 1 v n xs) (hn : 0 < n) : ∃ g cap, v = .slice (some ⟨g, 0, none⟩) n cap := by
  rcases h.2 with ⟨e, e2⟩ | ⟨g, cap, cur, e, _⟩
  · omega
  · exact ⟨g, cap, e⟩
theorem below_app {B : Nat} {w wr w1 : World} {e : TypeId} {size : Nat} {v : Value} {n : Nat} {xs : List Value} {o : Obj} (hown : wr.ownsRow B e size v n xs) (hBw : B ≤ wr.heap.size) (hb : Below B w wr) (hg : (wr.alloc o).grownBy w1 v.ownBlock) : Below B w w1 :=
  (hb.alloc hBw o).grown hg (by simp; omega) (own_base hown)
theorem bytes_conv {wr : World} {base n cap g : Nat} {l : List UInt8} (h1 : l.length = n) (h3 : wr.ownsRow base 5 1 (.slice (some ⟨g, 0, none⟩) n cap) n (Lib.byteCells l)) : (convert 39 9 (.slice (some ⟨g, 0, none⟩) n cap)).run Tryz.prog wr = .ok (.string ⟨l.toArray⟩) wr := by
  subst h1
  refine run_convert_bytes_back (P := Tryz.prog) wr 39 9 5 ⟨g, 0, none⟩ cap l Tryz.underlying39 Tryz.underlying5 Tryz.underlying9 (fun j hj => ?_)
  have := h3.cellAt j (by omega)
  have e : (⟨g, 0, none⟩ : Addr).add j = ⟨g, j, none⟩ := by
    unfold Addr.add; by_cases h0 : j = 0 <;> simp [h0]
  rw [e, this]
  simp [Lib.byteCells, hj]

/-- a new row of bytes, all of it room -/
def brow (m : Nat) : Obj := .cells (madeCells #[.int .u8 0] m) 5 (0, 0)
theorem run_make_bytes (m : Nat) (z : Int) (hz : z = (m : Int)) (hn : m ≤ 140737488355328) (u : World) : (Instr.makeSlice 39 (.int .i64 0) (.int .i64 z)).run Tryz.prog u = .ok (.slice (some ⟨u.heap.size, 0, none⟩) 0 m) (u.alloc (brow m)) := by
  subst hz
  obtain ⟨i0, hi, hz0, hz1, hz2⟩ := info_parts Tryz.infoB
  have h := run_make (P := Tryz.prog) u 39 5 i0 (.int .u8 0) Tryz.underlying39 hi hz0 .i64 .i64 0 (m : Int) (by omega) (by omega) (by rw [hz2]; omega) (by omega)
  have e : ((m : Int)).toNat = m := by omega
  rw [e] at h
  simpa [hz1, Value.cells, brow] using h
theorem own_bytes (w : World) (m : Nat) (hm : m ≤ 140737488355328) : (w.alloc (brow m)).ownsRow w.heap.size 5 1 (.slice (some ⟨w.heap.size, 0, none⟩) 0 m) 0 (Lib.byteCells []) :=
  ⟨rfl, Or.inr ⟨w.heap.size, m, madeCells #[.int .u8 0] m, rfl, Nat.le_refl _, heap_alloc_new w _, Nat.zero_le _, by unfold maxLen; omega, by rw [size_madeCells, Nat.mul_one], rfl⟩⟩

/-- a call that appends bytes to a row of the caller's own -/
def AppR (B : Nat) (v : Value) (w w' : World) (e : Ending) (n : Nat) (l : List UInt8) : Prop := ∃ ao cap, e = .returned (.slice ao n cap) ∧ w'.ownsRow B 5 1 (.slice ao n cap) n (Lib.byteCells l) ∧ Below B w w' ∧ w.grownBy w' v.ownBlock

theorem grown_trans {a b c : World} {r : Option Nat} (h : a.grownBy b r) (k : b.grownBy c r) : a.grownBy c r :=
  ⟨k.os.trans h.os, k.tape.trans h.tape, k.output.trans h.output, Nat.le_trans h.size k.size, fun i hi hr => (k.block i (Nat.lt_of_lt_of_le hi h.size) hr).trans (h.block i hi hr)⟩
theorem grown_after {w w1 : World} {o : Obj} {r : Option Nat} (h : (w.alloc o).grownBy w1 r) : w.grownBy w1 r := grown_trans (World.grownBy_alloc w o r) h
theorem own_ne_iter {w : World} {B e size n : Nat} {v : Value} {xs : List Value} {k : Nat} {s : ByteArray} {pos : Nat} (h : w.ownsRow B e size v n xs) (hk : w.heap[k]? = some (.stringIter s pos)) : some k ≠ v.ownBlock := by
  rcases h.2 with ⟨rfl, _⟩ | ⟨g, cap, cur, rfl, hb, hg, rest⟩
  · simp [Value.ownBlock]
  · intro e
    simp only [Value.ownBlock, Option.some.injEq] at e
    subst e
    rw [hk] at hg
    cases hg
theorem own_iterAt {w : World} {B e size n : Nat} {v : Value} {xs : List Value} {k : Nat} {s : ByteArray} {pos : Nat} (h : w.ownsRow B e size v n xs) (hk : w.heap[k]? = some (.stringIter s pos)) (pos' : Nat) : (w.iterAt k s pos').ownsRow B e size v n xs := by
  refine ⟨h.1, ?_⟩
  rcases h.2 with h0 | ⟨g, cap, cur, hv, hb, hg, rest⟩
  · exact .inl h0
  · refine .inr ⟨g, cap, cur, hv, hb, ?_, rest⟩
    rw [Lib.iterAt_other _ _ _ _ _ (fun e => by subst e; rw [hk] at hg; cases hg)]
    exact hg
theorem iter_kept {w w' : World} {B e size n : Nat} {v : Value} {xs : List Value} {k : Nat} {s : ByteArray} {pos : Nat} (h : w.ownsRow B e size v n xs) (hk : w.heap[k]? = some (.stringIter s pos)) (hg : w.grownBy w' v.ownBlock) : w'.heap[k]? = some (.stringIter s pos) := by
  rw [hg.block k (Array.getElem?_eq_some_iff.1 hk).1 (own_ne_iter h hk)]; exact hk
theorem nxtAt (w : World) (k : Nat) (s : ByteArray) (p : Nat) (r q : Nat) (hk : w.heap[k]? = some (.stringIter s p)) (h : p < s.size) (hd : Utf8.decode s p = (r, q - p)) (hq : p ≤ q) (ty : TypeId) :
    (Instr.next (.pointer (some ⟨k, 0, none⟩)) true ty).run Tryz.prog w = .ok (.tuple #[.bool true, .int .i64 (p : Int), .int .i32 (r : Int)]) (w.iterAt k s q) := by
  have := Lib.run_next_any_at (P := Tryz.prog) w k s p ty hk h
  rw [hd, show p + (q - p) = q by omega] at this
  exact this

set_option maxRecDepth 100000 in
set_option maxHeartbeats 1600000 in
theorem f_appendQuoted (B n : Nat) (v : Value) (l : List UInt8) (w : World) (hown : w.ownsRow B 5 1 v n (Lib.byteCells l)) (hBw : B ≤ w.heap.size) (hn : n ≤ 1099511627776) :
    Calls Tryz.prog 51 #[v, .int .i32 10] w fun e w' => AppR B v w w' e (n + 2) (l ++ [92, 110]) := by
  obtain ⟨i0, hi0, hz0, hz1, hz2⟩ := info_parts Tryz.infoB
  obtain ⟨ao, cap, rfl⟩ := own_shape hown
  have HI := Hid.mk (fun u => Tryz.strings_IndexRune_ascii ⟨#[34, 92, 47, 8, 12, 10, 13, 9]⟩ 10 u (by decide) (by decide))
  rw [show Lib.indexByte (ByteArray.mk #[34, 92, 47, 8, 12, 10, 13, 9]).data.toList (10 : Int).toNat.toUInt8 = 5 by decide] at HI
  go_enter Tryz.func51, Tryz.ntmps51
  go_wp2_with fail
  refine (HI.out _).mono ?_
  rintro e w1 ⟨rfl, hw⟩
  obtain rfl := hw.symm
  go_wp2_with (at_builtin; refine wpList_append_own _ rfl _ _ 39 rfl B 5 i0 (.int .u8 0) 1 1 Tryz.underlying39 hi0 hz0 hz1 hz2 rfl (by decide) _ _ _ rfl (hown.alloc _) ⟨w.heap.size, 0, none⟩ 2 2 [.int .u8 92, .int .u8 110] rfl rfl (by intro j u hj; match j, hj with | 0, hj => simp at hj; subst hj; simp [Addr.add] | 1, hj => simp at hj; subst hj; simp [Addr.add]; rfl) (by intro u hu; simp at hu; rcases hu with rfl | rfl <;> rfl) (by unfold maxLen; omega) (by omega) (by simp; omega) ?_)
  intro v1 w1 hown1 hgrow1 hnn
  obtain ⟨so, sc, hv⟩ := own_shape hown1
  have HB := Hid.mk (below_app hown hBw (Below.refl _ _) hgrow1)
  have HG := Hid.mk (grown_after hgrow1)
  have HO : Hid (w1.ownsRow B 5 1 v1 (n + 2) (Lib.byteCells (l ++ [92, 110]))) := by
    show World.ownsRow _ _ _ _ _ _ _
    rw [Lib.byteCells_append]
    exact hown1
  subst hv
  clear hown1 hgrow1 hnn hown
  go_wp2_with fail
  go_ret
  exact ⟨_, _, rfl, HO.out, HB.out, HG.out⟩

set_option maxRecDepth 100000 in
set_option maxHeartbeats 1600000 in
theorem f_Quote (w : World) : Calls Tryz.prog 22 #[.string ⟨#[10]⟩] w fun e w' => e = .returned (.string ⟨#[34, 92, 110, 34]⟩) ∧ Below w.heap.size w w' := by
  obtain ⟨i0, hi0, hz0, hz1, hz2⟩ := info_parts Tryz.infoB
  have hmk := fun (u : World) => run_make_bytes 3 3 rfl (by decide) u
  have hown0 := own_bytes w 3 (by decide)
  have hnews : ∀ (j : Nat) (u : Value), ([.int .u8 34] : List Value)[j]? = some u → ((w.alloc (brow 3)).alloc (.cells #[.int .u8 34] 5)).cell? ((⟨w.heap.size + 1, 0, none⟩ : Addr).add j) = some u := by
    intro j u hj
    match j, hj with
    | 0, hj =>
      simp at hj
      subst hj
      have h := heap_alloc_new (w.alloc (brow 3)) (.cells #[.int .u8 34] 5)
      rw [World.size_alloc] at h
      show World.cell? _ ⟨w.heap.size + 1, 0, none⟩ = _
      rw [cell_of_row _ _ _ _ _ _ h]
      rfl
  go_enter Tryz.func22, Tryz.ntmps22
  go_wp2_with (at_builtin; refine wpList_append_own _ rfl (.tmp 10) (.tmp 11) 39 rfl w.heap.size 5 i0 (.int .u8 0) 1 1 Tryz.underlying39 hi0 hz0 hz1 hz2 rfl (by decide) _ _ _ rfl (hown0.alloc _) ⟨w.heap.size + 1, 0, none⟩ 1 1 [.int .u8 34] rfl rfl hnews (by intro u hu; simp at hu; subst hu; rfl) (by decide) (by omega) (by simp; omega) ?_)
  intro v1 w1 hown1 hgrow1 hnn
  obtain ⟨so, sc, hv⟩ := own_shape hown1
  have HB1 : Hid (Below w.heap.size w w1) := below_app hown0 (by simp) (below1 w _) hgrow1
  have HO1 : Hid (w1.ownsRow w.heap.size 5 1 v1 1 (Lib.byteCells [34])) := hown1
  subst hv
  clear hown1 hgrow1 hnn hown0 hmk
  have h0 := fun ty => nxt w1 ⟨#[10]⟩ 0 10 1 ty (by decide) (by decide) (by decide)
  have HO2 : Hid ((w1.iter ⟨#[10]⟩ 1).ownsRow w.heap.size 5 1 (.slice so 1 sc) 1 (Lib.byteCells [34])) := HO1.out.alloc _
  have HB2 : Hid (Below w.heap.size w (w1.iter ⟨#[10]⟩ 1)) := HB1.out.alloc HB1.out.size _
  go_wp2_with fail
  refine wp_loop_rounds 2 ?_
  rw [rounds_succ]
  go_wp2_with fail
  refine (f_appendQuoted w.heap.size 1 _ [34] _ HO2.out HB2.out.size (by decide)).mono ?_
  rintro e w3 ⟨ro, rc, rfl, hown3, hb3, hg3⟩
  have hk3 := iter_kept HO2.out (World.iter_heap w1 ⟨#[10]⟩ 1) hg3
  have h1 := fun ty => Lib.run_next_end_at (P := Tryz.prog) w3 w1.heap.size ⟨#[10]⟩ 1 ty hk3 (by decide)
  have HO3 := Hid.mk hown3
  have HB3 := Hid.mk (HB2.out.trans hb3)
  have hown3' := hown3
  clear hb3 hg3 hk3
  go_wp2_with fail
  rw [rounds_succ]
  go_wp2_with (at_builtin; refine wpList_append_own _ rfl (.tmp 21) (.tmp 22) 39 rfl w.heap.size 5 i0 (.int .u8 0) 1 1 Tryz.underlying39 hi0 hz0 hz1 hz2 rfl (by decide) _ _ _ rfl (hown3'.alloc _) ⟨w3.heap.size, 0, none⟩ 1 1 [.int .u8 34] rfl rfl (by intro j u hj; match j, hj with | 0, hj => simp at hj; subst hj; simp [Addr.add]) (by intro u hu; simp at hu; subst hu; rfl) (by decide) (by omega) (by have := HB3.out.size; simp; omega) ?_)
  intro v4 w4 hown4 hgrow4 hnn
  have hown4 : w4.ownsRow w.heap.size 5 1 v4 4 (Lib.byteCells [34, 92, 110, 34]) := hown4
  obtain ⟨g4, c4, hv4⟩ := own_some hown4 (by decide)
  have HB4 : Hid (Below w.heap.size w w4) := below_app hown3 HB3.out.size HB3.out hgrow4
  subst hv4
  have hcv := bytes_conv (n := 4) (l := [34, 92, 110, 34]) rfl hown4
  clear hown4 hgrow4 hnn hown3 hown3' h1
  go_wp2_with fail
  go_ret
  exact ⟨rfl, HB4.out⟩

theorem numAt_fixed : NumAt ⟨#[34, 92, 117, 48, 48, 101, 57, 34]⟩ 1 [48, 48, 101, 57] := ⟨rfl, by decide, [34], [34], rfl, rfl⟩
end Go.Proofs.YtcadknhedfnaoaaGreatDoor
