import Derived.Test.YtdmkfdaddacdhaaGreatDoorM30
namespace Go.Proofs.YtdmkfdaddacdhaaGreatDoor
open Go.RowKit
set_option linter.unusedVariables false
set_option linter.unusedSimpArgs false

/-- the cutter's box -/
def CtB (w : World) (C : Nat) (s : ByteArray) (v : Value) : Prop := w.heap[C]? = some (.cells #[.string s, v] 80 (0, 0))
theorem CtB.low {w w' : World} {n C : Nat} {s : ByteArray} {v : Value} (h : CtB w C s v) (hb : Below n w w') (hC : C < n) : CtB w' C s v := heap_lowT hb hC h
theorem CtB.lt {w : World} {C : Nat} {s : ByteArray} {v : Value} (h : CtB w C s v) : C < w.heap.size := (Array.getElem?_eq_some_iff.1 h).1
theorem CtB.c0 {w : World} {C : Nat} {s : ByteArray} {v : Value} (h : CtB w C s v) : w.cell? ⟨C, 0, none⟩ = some (.string s) := by rw [cell_of_row _ _ 0 _ _ _ h]; rfl
theorem CtB.c1 {w : World} {C : Nat} {s : ByteArray} {v : Value} (h : CtB w C s v) : w.cell? ⟨C, 1, none⟩ = some v := by rw [cell_of_row _ _ 1 _ _ _ h]; rfl
theorem CtB.f1 {w : World} {C : Nat} {s : ByteArray} {v : Value} (h : CtB w C s v) : w.frozen? ⟨C, 1, none⟩ = false := frozen_rowT (j := 1) h

set_option maxRecDepth 100000 in
set_option maxHeartbeats 3200000 in
theorem w_cName (s : ByteArray) (p C : Nat) (v : Value) (w : World) (hp : p < s.size) (hs : s.size ≤ 1099511627776) (hC : CtB w C s v) :
    Calls Tryz.prog 87 #[.pointer (some ⟨C, 0, none⟩), .int .i64 (p : Int)] w fun e w' => TokR (nameT s.data.toList p) w w' e := by
  have HN := Hid.mk (fun u => w_nameAt s p u (by omega) (by omega))
  have HO := Hid.mk (fun u => w_wOwn ⟨(nameW s.data.toList p).toArray⟩ u)
  rw [arr_lst (nameW s.data.toList p)] at HO
  have hln := nameW_len (l := s.data.toList) (p := p) (by rw [size_lst]; omega)
  rw [size_lst] at hln
  have hsz : (⟨(nameW s.data.toList p).toArray⟩ : ByteArray).size = (nameW s.data.toList p).length := arr_size _
  unfold nameT TokR tokV
  dsimp only
  generalize nameW s.data.toList p = nm at *
  obtain ⟨tb, htb⟩ : ∃ tb : ByteArray, (⟨nm.toArray⟩ : ByteArray) = tb := ⟨_, rfl⟩
  rw [htb] at HN HO hsz ⊢
  have HSZ := Hid.mk hsz
  clear htb
  have HR : Hid (((nm.length : Nat) : Int) = (tb.size : Int)) := by show _ = _; rw [hsz]
  have hln2 : p + tb.size ≤ s.size := by rw [hsz]; exact hln
  clear hsz hln
  cases ho : ownB nm with
  | false =>
    rw [ho] at HO
    clear ho
    have HC0 := Hid.mk (hC.low (below1 w tbox0) hC.lt)
    have c0 := HC0.out.c0
    unfold tbox0 at c0
    go_enter Tryz.func87, Tryz.ntmps87
    go_wp2_with fail
    refine (HN.out _).mono ?_
    rintro e w1 ⟨rfl, hw1⟩
    obtain rfl := hw1.symm
    clear c0
    go_wp2_with fail
    refine (HO.out _).mono ?_
    rintro e w1 ⟨rfl, hw1⟩
    obtain rfl := hw1.symm
    obtain ⟨W, hW⟩ : ∃ W, w.alloc tbox0 = W := ⟨_, rfl⟩
    have hX := heap_alloc_new w tbox0
    rw [hW] at hX
    have HX := Hid.mk hX
    have hb := below1 w tbox0
    rw [hW] at hb
    have HB := Hid.mk hb
    obtain ⟨kc0, kc1, kc2, kc3, kf0, kf1, kf2, kf3⟩ := tbox_cells hX
    unfold tbox0 at hW
    rw [hW]
    clear hW hX hb
    go_wp2_with fail
    (try simp only [Exit.inBlock, Exit.then])
    generalize hz : ((((W).setCell ⟨w.heap.size, 0, none⟩ (.int .i64 1)).setCell ⟨w.heap.size, 1, none⟩ (.int .i64 (p : Int))).setCell ⟨w.heap.size, 2, none⟩ (.int .i64 ((p : Int) + (tb.size : Int)))).setCell ⟨w.heap.size, 3, none⟩ (.string tb) = wz
    obtain ⟨z1, z2, z3, z4⟩ := box_set4 _ _ _ _ _ _ _ _ _ _ _ HX.out wz hz.symm
    obtain ⟨hd0, hd1, hd2, hd3, _⟩ := tbox_cells z1
    refine bodyPost_ret (v := .tuple #[.agg #[.int .i64 1, .int .i64 (p : Int), .int .i64 ((p : Int) + (tb.size : Int)), .string tb], .int .i64 0]) (by simp [results, Tryz.results87, go_sem, hd0, hd1, hd2, hd3]) rfl ?_
    exact ⟨by rw [HR.out]; first | done | rfl, HB.out.trans (z4 _ (Nat.le_refl _))⟩
  | true =>
    rw [ho] at HO
    clear ho
    have HC0 := Hid.mk (hC.low (below1 w tbox0) hC.lt)
    have c0 := HC0.out.c0
    unfold tbox0 at c0
    go_enter Tryz.func87, Tryz.ntmps87
    go_wp2_with fail
    refine (HN.out _).mono ?_
    rintro e w1 ⟨rfl, hw1⟩
    obtain rfl := hw1.symm
    clear c0
    go_wp2_with fail
    refine (HO.out _).mono ?_
    rintro e w1 ⟨rfl, hw1⟩
    obtain rfl := hw1.symm
    obtain ⟨W, hW⟩ : ∃ W, w.alloc tbox0 = W := ⟨_, rfl⟩
    have hX := heap_alloc_new w tbox0
    rw [hW] at hX
    have HX := Hid.mk hX
    have hb := below1 w tbox0
    rw [hW] at hb
    have HB := Hid.mk hb
    obtain ⟨kc0, kc1, kc2, kc3, kf0, kf1, kf2, kf3⟩ := tbox_cells hX
    unfold tbox0 at hW
    rw [hW]
    clear hW hX hb
    go_wp2_with fail
    (try simp only [Exit.inBlock, Exit.then])
    generalize hz : ((((W).setCell ⟨w.heap.size, 0, none⟩ (.int .i64 2)).setCell ⟨w.heap.size, 1, none⟩ (.int .i64 (p : Int))).setCell ⟨w.heap.size, 2, none⟩ (.int .i64 ((p : Int) + (tb.size : Int)))).setCell ⟨w.heap.size, 3, none⟩ (.string tb) = wz
    obtain ⟨z1, z2, z3, z4⟩ := box_set4 _ _ _ _ _ _ _ _ _ _ _ HX.out wz hz.symm
    obtain ⟨hd0, hd1, hd2, hd3, _⟩ := tbox_cells z1
    refine bodyPost_ret (v := .tuple #[.agg #[.int .i64 2, .int .i64 (p : Int), .int .i64 ((p : Int) + (tb.size : Int)), .string tb], .int .i64 0]) (by simp [results, Tryz.results87, go_sem, hd0, hd1, hd2, hd3]) rfl ?_
    exact ⟨by rw [HR.out]; first | done | rfl, HB.out.trans (z4 _ (Nat.le_refl _))⟩

end Go.Proofs.YtdmkfdaddacdhaaGreatDoor
