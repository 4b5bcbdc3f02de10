import Derived.Test.YtfjmgccbpiolhaaGreatDoorM24
import Derived.Laws.EntriesVeiled
namespace Go.Proofs.YtfjmgccbpiolhaaGreatDoor
open Go.RowKit
set_option linter.unusedVariables false
set_option linter.unusedSimpArgs false

set_option maxRecDepth 100000 in
set_option maxHeartbeats 3200000 in
theorem w_word (s : ByteArray) (p : Nat) (w : World) (hp : p < s.size) (hs : s.size ≤ 4294967296) :
    Calls Tryz.prog 160 #[.string s, .int .i64 (p : Int)] w fun e w' => TokR (wordT s.data.toList p) w w' e := by
  have HC := Hid.mk (fun u => w_behind s bWd p u (by omega) (by omega) (by decide) (ascii_all (by decide +kernel)))
  have hbe := behL_ge (l := s.data.toList) (p := p) cWd (by rw [size_lst]; omega)
  have e1 : bWd.data.toList = cWd := rfl
  rw [e1] at HC
  have e2 : bWd = ⟨#[97, 98, 99, 100, 101, 102, 103, 104, 105, 106, 107, 108, 109, 110, 111, 112, 113, 114, 115, 116, 117, 118, 119, 120, 121, 122, 65, 66, 67, 68, 69, 70, 71, 72, 73, 74, 75, 76, 77, 78, 79, 80, 81, 82, 83, 84, 85, 86, 87, 88, 89, 90, 95, 48, 49, 50, 51, 52, 53, 54, 55, 56, 57]⟩ := rfl
  rw [e2] at HC
  clear e1 e2
  unfold wordT
  generalize behL s.data.toList p cWd = q at *
  rw [size_lst] at hbe
  obtain ⟨hpq, hqs⟩ := hbe
  rw [← extract_lst s p q hqs]
  have h0 : (0 : Int) ≤ (p : Int) := by omega
  have h1 : (p : Int) ≤ (q : Int) := by omega
  have h2 : (q : Int) ≤ (s.size : Int) := by omega
  by_cases hz0 : (s.extract p q).data.toList = [110, 117, 108, 108]
  · have hzb0 : ((s.extract p q).toList == [110, 117, 108, 108]) = true := by rw [Lib.toList_data, hz0]; rfl
    rw [if_pos hz0]
    clear hz0
    unfold TokR tokV
    dsimp only
    go_enter Tryz.func160, Tryz.ntmps160
    go_wp2_with fail
    refine (HC.out _).mono ?_
    rintro e w1 ⟨rfl, hb1⟩
    have hbx := tbox1 hb1
    have HB1 := Hid.mk hbx.2
    have HX := Hid.mk hbx.1
    clear hb1 hbx
    have hlt := (Array.getElem?_eq_some_iff.1 HX.out).1
    have hb2 := below1 w1 (Obj.cells #[.int .i64 7, .int .i64 (p : Int), .int .i64 (q : Int), .string ⟨#[]⟩] 126)
    have HX2 := Hid.mk (heap_lowT hb2 hlt HX.out)
    have HB2 := Hid.mk (HB1.out.trans (hb2.mono HB1.out.size))
    obtain ⟨kc0, kc1, kc2, kc3, kf0, kf1, kf2, kf3⟩ := tbox_cells HX2.out
    obtain ⟨jc0, jc1, jc2, jc3, jf0, jf1, jf2, jf3⟩ := tbox_cells HX.out
    clear hb2
    go_wp2_with fail
    (try simp only [Exit.inBlock, Exit.then])
    generalize hz : (((w1.setCell ⟨w.heap.size, 0, none⟩ (.int .i64 7)).setCell ⟨w.heap.size, 1, none⟩ (.int .i64 (p : Int))).setCell ⟨w.heap.size, 2, none⟩ (.int .i64 (q : Int))).setCell ⟨w.heap.size, 3, none⟩ (.string ⟨#[]⟩) = wz
    obtain ⟨z1, z2, z3, z4⟩ := box_set4 _ _ _ _ _ _ _ _ _ _ _ HX.out wz hz.symm
    have hb4 := below1 wz (Obj.cells #[.int .i64 7, .int .i64 (p : Int), .int .i64 (q : Int), .string ⟨#[]⟩] 126)
    obtain ⟨hd0, hd1, hd2, hd3, _⟩ := tbox_cells (heap_lowT hb4 (by rw [z3]; exact hlt) z1)
    have HB4 := Hid.mk (HB1.out.trans ((z4 _ (Nat.le_refl _)).trans (hb4.mono (by rw [z3]; exact Nat.le_of_lt hlt))))
    refine bodyPost_ret (v := .tuple #[.agg #[.int .i64 7, .int .i64 (p : Int), .int .i64 (q : Int), .string ⟨#[]⟩], .int .i64 0]) (by simp [results, Tryz.results160, go_sem, hd0, hd1, hd2, hd3]) rfl ?_
    exact ⟨rfl, HB4.out⟩
  · have hzb0 : ((s.extract p q).toList == [110, 117, 108, 108]) = false := by rw [Lib.toList_data, beq_eq_false_iff_ne]; exact hz0
    rw [if_neg hz0]
    clear hz0
    by_cases hz1 : (s.extract p q).data.toList = [102, 97, 108, 115, 101]
    · have hzb1 : ((s.extract p q).toList == [102, 97, 108, 115, 101]) = true := by rw [Lib.toList_data, hz1]; rfl
      rw [if_pos hz1]
      clear hz1
      unfold TokR tokV
      dsimp only
      go_enter Tryz.func160, Tryz.ntmps160
      go_wp2_with fail
      refine (HC.out _).mono ?_
      rintro e w1 ⟨rfl, hb1⟩
      have hbx := tbox1 hb1
      have HB1 := Hid.mk hbx.2
      have HX := Hid.mk hbx.1
      clear hb1 hbx
      have hlt := (Array.getElem?_eq_some_iff.1 HX.out).1
      have hb2 := below1 w1 (Obj.cells #[.int .i64 8, .int .i64 (p : Int), .int .i64 (q : Int), .string ⟨#[]⟩] 126)
      have HX2 := Hid.mk (heap_lowT hb2 hlt HX.out)
      have HB2 := Hid.mk (HB1.out.trans (hb2.mono HB1.out.size))
      obtain ⟨kc0, kc1, kc2, kc3, kf0, kf1, kf2, kf3⟩ := tbox_cells HX2.out
      obtain ⟨jc0, jc1, jc2, jc3, jf0, jf1, jf2, jf3⟩ := tbox_cells HX.out
      clear hb2
      go_wp2_with fail
      (try simp only [Exit.inBlock, Exit.then])
      generalize hz : (((w1.setCell ⟨w.heap.size, 0, none⟩ (.int .i64 8)).setCell ⟨w.heap.size, 1, none⟩ (.int .i64 (p : Int))).setCell ⟨w.heap.size, 2, none⟩ (.int .i64 (q : Int))).setCell ⟨w.heap.size, 3, none⟩ (.string ⟨#[]⟩) = wz
      obtain ⟨z1, z2, z3, z4⟩ := box_set4 _ _ _ _ _ _ _ _ _ _ _ HX.out wz hz.symm
      have hb4 := below1 wz (Obj.cells #[.int .i64 8, .int .i64 (p : Int), .int .i64 (q : Int), .string ⟨#[]⟩] 126)
      obtain ⟨hd0, hd1, hd2, hd3, _⟩ := tbox_cells (heap_lowT hb4 (by rw [z3]; exact hlt) z1)
      have HB4 := Hid.mk (HB1.out.trans ((z4 _ (Nat.le_refl _)).trans (hb4.mono (by rw [z3]; exact Nat.le_of_lt hlt))))
      refine bodyPost_ret (v := .tuple #[.agg #[.int .i64 8, .int .i64 (p : Int), .int .i64 (q : Int), .string ⟨#[]⟩], .int .i64 0]) (by simp [results, Tryz.results160, go_sem, hd0, hd1, hd2, hd3]) rfl ?_
      exact ⟨rfl, HB4.out⟩
    · have hzb1 : ((s.extract p q).toList == [102, 97, 108, 115, 101]) = false := by rw [Lib.toList_data, beq_eq_false_iff_ne]; exact hz1
      rw [if_neg hz1]
      clear hz1
      by_cases hz2 : (s.extract p q).data.toList = [116, 114, 117, 101]
      · have hzb2 : ((s.extract p q).toList == [116, 114, 117, 101]) = true := by rw [Lib.toList_data, hz2]; rfl
        rw [if_pos hz2]
        clear hz2
        unfold TokR tokV
        dsimp only
        go_enter Tryz.func160, Tryz.ntmps160
        go_wp2_with fail
        refine (HC.out _).mono ?_
        rintro e w1 ⟨rfl, hb1⟩
        have hbx := tbox1 hb1
        have HB1 := Hid.mk hbx.2
        have HX := Hid.mk hbx.1
        clear hb1 hbx
        have hlt := (Array.getElem?_eq_some_iff.1 HX.out).1
        have hb2 := below1 w1 (Obj.cells #[.int .i64 9, .int .i64 (p : Int), .int .i64 (q : Int), .string ⟨#[]⟩] 126)
        have HX2 := Hid.mk (heap_lowT hb2 hlt HX.out)
        have HB2 := Hid.mk (HB1.out.trans (hb2.mono HB1.out.size))
        obtain ⟨kc0, kc1, kc2, kc3, kf0, kf1, kf2, kf3⟩ := tbox_cells HX2.out
        obtain ⟨jc0, jc1, jc2, jc3, jf0, jf1, jf2, jf3⟩ := tbox_cells HX.out
        clear hb2
        go_wp2_with fail
        (try simp only [Exit.inBlock, Exit.then])
        generalize hz : (((w1.setCell ⟨w.heap.size, 0, none⟩ (.int .i64 9)).setCell ⟨w.heap.size, 1, none⟩ (.int .i64 (p : Int))).setCell ⟨w.heap.size, 2, none⟩ (.int .i64 (q : Int))).setCell ⟨w.heap.size, 3, none⟩ (.string ⟨#[]⟩) = wz
        obtain ⟨z1, z2, z3, z4⟩ := box_set4 _ _ _ _ _ _ _ _ _ _ _ HX.out wz hz.symm
        have hb4 := below1 wz (Obj.cells #[.int .i64 9, .int .i64 (p : Int), .int .i64 (q : Int), .string ⟨#[]⟩] 126)
        obtain ⟨hd0, hd1, hd2, hd3, _⟩ := tbox_cells (heap_lowT hb4 (by rw [z3]; exact hlt) z1)
        have HB4 := Hid.mk (HB1.out.trans ((z4 _ (Nat.le_refl _)).trans (hb4.mono (by rw [z3]; exact Nat.le_of_lt hlt))))
        refine bodyPost_ret (v := .tuple #[.agg #[.int .i64 9, .int .i64 (p : Int), .int .i64 (q : Int), .string ⟨#[]⟩], .int .i64 0]) (by simp [results, Tryz.results160, go_sem, hd0, hd1, hd2, hd3]) rfl ?_
        exact ⟨rfl, HB4.out⟩
      · have hzb2 : ((s.extract p q).toList == [116, 114, 117, 101]) = false := by rw [Lib.toList_data, beq_eq_false_iff_ne]; exact hz2
        rw [if_neg hz2]
        clear hz2
        unfold TokR tokV
        dsimp only
        go_enter Tryz.func160, Tryz.ntmps160
        go_wp2_with fail
        refine (HC.out _).mono ?_
        rintro e w1 ⟨rfl, hb1⟩
        have hbx := tbox1 hb1
        have HB1 := Hid.mk hbx.2
        have HX := Hid.mk hbx.1
        clear hb1 hbx
        have hlt := (Array.getElem?_eq_some_iff.1 HX.out).1
        have hb2 := below1 w1 (Obj.cells #[.int .i64 0, .int .i64 (p : Int), .int .i64 (q : Int), .string ⟨#[]⟩] 126)
        have HX2 := Hid.mk (heap_lowT hb2 hlt HX.out)
        have HB2 := Hid.mk (HB1.out.trans (hb2.mono HB1.out.size))
        clear hb2
        go_wp2_with fail
        refine (w_fault _ _ _).mono ?_
        rintro e w3 ⟨rfl, hb3⟩
        have HX3 := Hid.mk (heap_lowT hb3 (Nat.lt_of_lt_of_le (Array.getElem?_eq_some_iff.1 HX2.out).1 (Nat.le_refl _)) HX2.out)
        have HB3 := Hid.mk (HB2.out.trans (hb3.mono HB2.out.size))
        obtain ⟨kc0, kc1, kc2, kc3, kf0, kf1, kf2, kf3⟩ := tbox_cells HX3.out
        clear hb3
        go_wp2_with fail
        (try simp only [Exit.inBlock, Exit.then])
        generalize hz : (((w3.setCell ⟨w.heap.size, 0, none⟩ (.int .i64 0)).setCell ⟨w.heap.size, 1, none⟩ (.int .i64 (p : Int))).setCell ⟨w.heap.size, 2, none⟩ (.int .i64 0)).setCell ⟨w.heap.size, 3, none⟩ (.string ⟨#[]⟩) = wz
        obtain ⟨z1, z2, z3, z4⟩ := box_set4 _ _ _ _ _ _ _ _ _ _ _ HX3.out wz hz.symm
        obtain ⟨hd0, hd1, hd2, hd3, _⟩ := tbox_cells z1
        refine bodyPost_ret (v := .tuple #[.agg #[.int .i64 0, .int .i64 (p : Int), .int .i64 0, .string ⟨#[]⟩], .int .i64 41]) (by simp [results, Tryz.results160, go_sem, hd0, hd1, hd2, hd3]) rfl ?_
        exact ⟨rfl, HB3.out.trans (z4 _ (Nat.le_refl _))⟩

def fnV (f : Nat) : Value := .func (.func f) #[] #[]
def known : Array Value := #[.string ⟨#[123, 125, 91, 93, 58, 44]⟩, fnV 158, .string ⟨#[34]⟩, fnV 159, .string ⟨cLe.toArray⟩, fnV 160, .string ⟨cDm.toArray⟩, fnV 161]

set_option maxRecDepth 100000 in
set_option maxHeartbeats 800000 in
theorem w_beginnings (w : World) : Calls Tryz.prog 147 #[] w fun e w' => e = .returned (.agg known) ∧ Below w.heap.size w w' := by
  go_enter Tryz.func147, Tryz.ntmps147
  go_wp2_with fail
  (try simp only [Exit.inBlock, Exit.then])
  refine bodyPost_ret (v := .agg known) (by simp [results, Tryz.results147, go_sem, known, fnV, cLe, cDm]) rfl ?_
  exact ⟨rfl, below1 _ _⟩
end Go.Proofs.YtfjmgccbpiolhaaGreatDoor
