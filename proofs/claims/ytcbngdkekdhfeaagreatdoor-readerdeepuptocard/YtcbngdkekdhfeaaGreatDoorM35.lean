import Derived.Test.YtcbngdkekdhfeaaGreatDoorM34
import Derived.Maps.AppendAt
namespace Go.Proofs.YtcbngdkekdhfeaaGreatDoor
open Go.RowKit Go.Shelf
set_option linter.unusedVariables false
set_option linter.unusedSimpArgs false
attribute [local go_sem] Oper.semAt_some

set_option maxRecDepth 100000 in
set_option maxHeartbeats 3200000 in
theorem w_5Read_k7 (s : ByteArray) (hs : s.size ≤ 1048576) (h d p : Nat) (hp : p ≤ s.size) (a z : Nat) (tx : List UInt8) (htx : tx.length ≤ 140737488355328) (w : World) (HN : Calls Tryz.prog 26 #[.string s, .int .i64 (p : Int)] (w.alloc (.cells #[.int .i64 0, .string ⟨#[]⟩, .string ⟨#[]⟩, .slice none 0 0, .slice none 0 0, .int .i64 0, .int .i64 0] 72)) fun e w' => Below (w.alloc (.cells #[.int .i64 0, .string ⟨#[]⟩, .string ⟨#[]⟩, .slice none 0 0, .slice none 0 0, .int .i64 0, .int .i64 0] 72)).heap.size (w.alloc (.cells #[.int .i64 0, .string ⟨#[]⟩, .string ⟨#[]⟩, .slice none 0 0, .slice none 0 0, .int .i64 0, .int .i64 0] 72)) w' ∧ e = .returned (pc5 110 a z tx 0)) :
    Calls Tryz.prog 27 #[.string s, .int .i64 (p : Int), .int .i64 (d : Int)] w fun e w' => An5 h w (.ok (.mk 0 .empty .empty [] []) z) e w' := by
  have HNN := Hid.mk HN
  have HTx := Hid.mk htx
  clear HN htx
  go_enter Tryz.func27, Tryz.ntmps27
  go_wp2_with fail
  refine HNN.out.mono ?_
  rintro e w1 ⟨hb1, rfl⟩
  obtain ⟨hsz, hbw, hbx⟩ := box_pc hb1
  rw [heap_alloc_new] at hbx
  obtain ⟨c0, c1, c2, c3, c4, c5, c6, f0, f1, f2, f3, f4, f5, f6⟩ := box7_cells hbx
  have HX := Hid.mk hbx
  have HB := Hid.mk hbw
  clear hb1 hbx hbw
  unfold pc5
  go_wp2_with fail
  (try simp only [Exit.inBlock, Exit.then])
  generalize hz7 : (((((((w1.setCell ⟨w.heap.size, 0, none⟩ (.int .i64 0)).setCell ⟨w.heap.size, 1, none⟩ (.string ⟨#[]⟩)).setCell ⟨w.heap.size, 2, none⟩ (.string ⟨#[]⟩)).setCell ⟨w.heap.size, 3, none⟩ (.slice none 0 0)).setCell ⟨w.heap.size, 4, none⟩ (.slice none 0 0)).setCell ⟨w.heap.size, 5, none⟩ (.int .i64 (z : Int))).setCell ⟨w.heap.size, 6, none⟩ (.int .i64 0)) = wz
  obtain ⟨e7, k7, s7⟩ := rbox_set7 w1 _ _ _ _ _ _ _ _ _ _ _ _ _ _ _ _ HX.out wz hz7.symm
  have e8 := (Below.heap_alloc wz (.cells #[.int .u8 110, .int .i64 (a : Int), .int .i64 (z : Int), .string ⟨tx.toArray⟩, .int .i64 0] 69) w.heap.size (by omega)).trans e7
  obtain ⟨d0, d1, d2, d3, d4, d5, d6, _⟩ := box7_cells e8
  have hbz : Below w.heap.size w wz := by rw [← hz7]; exact ((((((HB.out.setCell (p := ⟨w.heap.size, 0, none⟩) (Nat.le_refl _) _).setCell (p := ⟨w.heap.size, 1, none⟩) (Nat.le_refl _) _).setCell (p := ⟨w.heap.size, 2, none⟩) (Nat.le_refl _) _).setCell (p := ⟨w.heap.size, 3, none⟩) (Nat.le_refl _) _).setCell (p := ⟨w.heap.size, 4, none⟩) (Nat.le_refl _) _).setCell (p := ⟨w.heap.size, 5, none⟩) (Nat.le_refl _) _).setCell (p := ⟨w.heap.size, 6, none⟩) (Nat.le_refl _) _
  refine bodyPost_ret (v := .agg #[.int .i64 0, .string ⟨#[]⟩, .string ⟨#[]⟩, .slice none 0 0, .slice none 0 0, .int .i64 (z : Int), .int .i64 0]) (by simp [results, Tryz.results27, go_sem, d0, d1, d2, d3, d4, d5, d6]) rfl ?_
  exact ⟨hbz.alloc hbz.size _, _, _, _, _, _, rfl, inF_leaf _ _ _ 0 .empty .empty (by decide) (by decide)⟩

set_option maxRecDepth 100000 in
set_option maxHeartbeats 3200000 in
theorem w_5Read_k8 (s : ByteArray) (hs : s.size ≤ 1048576) (h d p : Nat) (hp : p ≤ s.size) (a z : Nat) (tx : List UInt8) (htx : tx.length ≤ 140737488355328) (w : World) (HN : Calls Tryz.prog 26 #[.string s, .int .i64 (p : Int)] (w.alloc (.cells #[.int .i64 0, .string ⟨#[]⟩, .string ⟨#[]⟩, .slice none 0 0, .slice none 0 0, .int .i64 0, .int .i64 0] 72)) fun e w' => Below (w.alloc (.cells #[.int .i64 0, .string ⟨#[]⟩, .string ⟨#[]⟩, .slice none 0 0, .slice none 0 0, .int .i64 0, .int .i64 0] 72)).heap.size (w.alloc (.cells #[.int .i64 0, .string ⟨#[]⟩, .string ⟨#[]⟩, .slice none 0 0, .slice none 0 0, .int .i64 0, .int .i64 0] 72)) w' ∧ e = .returned (pc5 102 a z tx 0)) :
    Calls Tryz.prog 27 #[.string s, .int .i64 (p : Int), .int .i64 (d : Int)] w fun e w' => An5 h w (.ok (.mk 1 .empty .empty [] []) z) e w' := by
  have HNN := Hid.mk HN
  have HTx := Hid.mk htx
  clear HN htx
  go_enter Tryz.func27, Tryz.ntmps27
  go_wp2_with fail
  refine HNN.out.mono ?_
  rintro e w1 ⟨hb1, rfl⟩
  obtain ⟨hsz, hbw, hbx⟩ := box_pc hb1
  rw [heap_alloc_new] at hbx
  obtain ⟨c0, c1, c2, c3, c4, c5, c6, f0, f1, f2, f3, f4, f5, f6⟩ := box7_cells hbx
  have HX := Hid.mk hbx
  have HB := Hid.mk hbw
  clear hb1 hbx hbw
  unfold pc5
  go_wp2_with fail
  (try simp only [Exit.inBlock, Exit.then])
  generalize hz7 : (((((((w1.setCell ⟨w.heap.size, 0, none⟩ (.int .i64 1)).setCell ⟨w.heap.size, 1, none⟩ (.string ⟨#[]⟩)).setCell ⟨w.heap.size, 2, none⟩ (.string ⟨#[]⟩)).setCell ⟨w.heap.size, 3, none⟩ (.slice none 0 0)).setCell ⟨w.heap.size, 4, none⟩ (.slice none 0 0)).setCell ⟨w.heap.size, 5, none⟩ (.int .i64 (z : Int))).setCell ⟨w.heap.size, 6, none⟩ (.int .i64 0)) = wz
  obtain ⟨e7, k7, s7⟩ := rbox_set7 w1 _ _ _ _ _ _ _ _ _ _ _ _ _ _ _ _ HX.out wz hz7.symm
  have e8 := (Below.heap_alloc wz (.cells #[.int .u8 102, .int .i64 (a : Int), .int .i64 (z : Int), .string ⟨tx.toArray⟩, .int .i64 0] 69) w.heap.size (by omega)).trans e7
  obtain ⟨d0, d1, d2, d3, d4, d5, d6, _⟩ := box7_cells e8
  have hbz : Below w.heap.size w wz := by rw [← hz7]; exact ((((((HB.out.setCell (p := ⟨w.heap.size, 0, none⟩) (Nat.le_refl _) _).setCell (p := ⟨w.heap.size, 1, none⟩) (Nat.le_refl _) _).setCell (p := ⟨w.heap.size, 2, none⟩) (Nat.le_refl _) _).setCell (p := ⟨w.heap.size, 3, none⟩) (Nat.le_refl _) _).setCell (p := ⟨w.heap.size, 4, none⟩) (Nat.le_refl _) _).setCell (p := ⟨w.heap.size, 5, none⟩) (Nat.le_refl _) _).setCell (p := ⟨w.heap.size, 6, none⟩) (Nat.le_refl _) _
  refine bodyPost_ret (v := .agg #[.int .i64 1, .string ⟨#[]⟩, .string ⟨#[]⟩, .slice none 0 0, .slice none 0 0, .int .i64 (z : Int), .int .i64 0]) (by simp [results, Tryz.results27, go_sem, d0, d1, d2, d3, d4, d5, d6]) rfl ?_
  exact ⟨hbz.alloc hbz.size _, _, _, _, _, _, rfl, inF_leaf _ _ _ 1 .empty .empty (by decide) (by decide)⟩

set_option maxRecDepth 100000 in
set_option maxHeartbeats 3200000 in
theorem w_5Read_k9 (s : ByteArray) (hs : s.size ≤ 1048576) (h d p : Nat) (hp : p ≤ s.size) (a z : Nat) (tx : List UInt8) (htx : tx.length ≤ 140737488355328) (w : World) (HN : Calls Tryz.prog 26 #[.string s, .int .i64 (p : Int)] (w.alloc (.cells #[.int .i64 0, .string ⟨#[]⟩, .string ⟨#[]⟩, .slice none 0 0, .slice none 0 0, .int .i64 0, .int .i64 0] 72)) fun e w' => Below (w.alloc (.cells #[.int .i64 0, .string ⟨#[]⟩, .string ⟨#[]⟩, .slice none 0 0, .slice none 0 0, .int .i64 0, .int .i64 0] 72)).heap.size (w.alloc (.cells #[.int .i64 0, .string ⟨#[]⟩, .string ⟨#[]⟩, .slice none 0 0, .slice none 0 0, .int .i64 0, .int .i64 0] 72)) w' ∧ e = .returned (pc5 116 a z tx 0)) :
    Calls Tryz.prog 27 #[.string s, .int .i64 (p : Int), .int .i64 (d : Int)] w fun e w' => An5 h w (.ok (.mk 2 .empty .empty [] []) z) e w' := by
  have HNN := Hid.mk HN
  have HTx := Hid.mk htx
  clear HN htx
  go_enter Tryz.func27, Tryz.ntmps27
  go_wp2_with fail
  refine HNN.out.mono ?_
  rintro e w1 ⟨hb1, rfl⟩
  obtain ⟨hsz, hbw, hbx⟩ := box_pc hb1
  rw [heap_alloc_new] at hbx
  obtain ⟨c0, c1, c2, c3, c4, c5, c6, f0, f1, f2, f3, f4, f5, f6⟩ := box7_cells hbx
  have HX := Hid.mk hbx
  have HB := Hid.mk hbw
  clear hb1 hbx hbw
  unfold pc5
  go_wp2_with fail
  (try simp only [Exit.inBlock, Exit.then])
  generalize hz7 : (((((((w1.setCell ⟨w.heap.size, 0, none⟩ (.int .i64 2)).setCell ⟨w.heap.size, 1, none⟩ (.string ⟨#[]⟩)).setCell ⟨w.heap.size, 2, none⟩ (.string ⟨#[]⟩)).setCell ⟨w.heap.size, 3, none⟩ (.slice none 0 0)).setCell ⟨w.heap.size, 4, none⟩ (.slice none 0 0)).setCell ⟨w.heap.size, 5, none⟩ (.int .i64 (z : Int))).setCell ⟨w.heap.size, 6, none⟩ (.int .i64 0)) = wz
  obtain ⟨e7, k7, s7⟩ := rbox_set7 w1 _ _ _ _ _ _ _ _ _ _ _ _ _ _ _ _ HX.out wz hz7.symm
  have e8 := (Below.heap_alloc wz (.cells #[.int .u8 116, .int .i64 (a : Int), .int .i64 (z : Int), .string ⟨tx.toArray⟩, .int .i64 0] 69) w.heap.size (by omega)).trans e7
  obtain ⟨d0, d1, d2, d3, d4, d5, d6, _⟩ := box7_cells e8
  have hbz : Below w.heap.size w wz := by rw [← hz7]; exact ((((((HB.out.setCell (p := ⟨w.heap.size, 0, none⟩) (Nat.le_refl _) _).setCell (p := ⟨w.heap.size, 1, none⟩) (Nat.le_refl _) _).setCell (p := ⟨w.heap.size, 2, none⟩) (Nat.le_refl _) _).setCell (p := ⟨w.heap.size, 3, none⟩) (Nat.le_refl _) _).setCell (p := ⟨w.heap.size, 4, none⟩) (Nat.le_refl _) _).setCell (p := ⟨w.heap.size, 5, none⟩) (Nat.le_refl _) _).setCell (p := ⟨w.heap.size, 6, none⟩) (Nat.le_refl _) _
  refine bodyPost_ret (v := .agg #[.int .i64 2, .string ⟨#[]⟩, .string ⟨#[]⟩, .slice none 0 0, .slice none 0 0, .int .i64 (z : Int), .int .i64 0]) (by simp [results, Tryz.results27, go_sem, d0, d1, d2, d3, d4, d5, d6]) rfl ?_
  exact ⟨hbz.alloc hbz.size _, _, _, _, _, _, rfl, inF_leaf _ _ _ 2 .empty .empty (by decide) (by decide)⟩

set_option maxRecDepth 100000 in
set_option maxHeartbeats 3200000 in
theorem w_5Read_k10 (s : ByteArray) (hs : s.size ≤ 1048576) (h d p : Nat) (hp : p ≤ s.size) (a z : Nat) (tx : List UInt8) (htx : tx.length ≤ 140737488355328) (w : World) (HN : Calls Tryz.prog 26 #[.string s, .int .i64 (p : Int)] (w.alloc (.cells #[.int .i64 0, .string ⟨#[]⟩, .string ⟨#[]⟩, .slice none 0 0, .slice none 0 0, .int .i64 0, .int .i64 0] 72)) fun e w' => Below (w.alloc (.cells #[.int .i64 0, .string ⟨#[]⟩, .string ⟨#[]⟩, .slice none 0 0, .slice none 0 0, .int .i64 0, .int .i64 0] 72)).heap.size (w.alloc (.cells #[.int .i64 0, .string ⟨#[]⟩, .string ⟨#[]⟩, .slice none 0 0, .slice none 0 0, .int .i64 0, .int .i64 0] 72)) w' ∧ e = .returned (pc5 0 a z tx 0)) :
    Calls Tryz.prog 27 #[.string s, .int .i64 (p : Int), .int .i64 (d : Int)] w fun e w' => An5 h w (.ok (.mk 3 (bT tx) .empty [] []) z) e w' := by
  have HNN := Hid.mk HN
  have HTx := Hid.mk htx
  clear HN htx
  go_enter Tryz.func27, Tryz.ntmps27
  go_wp2_with fail
  refine HNN.out.mono ?_
  rintro e w1 ⟨hb1, rfl⟩
  obtain ⟨hsz, hbw, hbx⟩ := box_pc hb1
  rw [heap_alloc_new] at hbx
  obtain ⟨c0, c1, c2, c3, c4, c5, c6, f0, f1, f2, f3, f4, f5, f6⟩ := box7_cells hbx
  have HX := Hid.mk hbx
  have HB := Hid.mk hbw
  clear hb1 hbx hbw
  unfold pc5
  go_wp2_with fail
  (try simp only [Exit.inBlock, Exit.then])
  generalize hz7 : (((((((w1.setCell ⟨w.heap.size, 0, none⟩ (.int .i64 3)).setCell ⟨w.heap.size, 1, none⟩ (.string ⟨tx.toArray⟩)).setCell ⟨w.heap.size, 2, none⟩ (.string ⟨#[]⟩)).setCell ⟨w.heap.size, 3, none⟩ (.slice none 0 0)).setCell ⟨w.heap.size, 4, none⟩ (.slice none 0 0)).setCell ⟨w.heap.size, 5, none⟩ (.int .i64 (z : Int))).setCell ⟨w.heap.size, 6, none⟩ (.int .i64 0)) = wz
  obtain ⟨e7, k7, s7⟩ := rbox_set7 w1 _ _ _ _ _ _ _ _ _ _ _ _ _ _ _ _ HX.out wz hz7.symm
  have e8 := (Below.heap_alloc wz (.cells #[.int .u8 0, .int .i64 (a : Int), .int .i64 (z : Int), .string ⟨tx.toArray⟩, .int .i64 0] 69) w.heap.size (by omega)).trans e7
  obtain ⟨d0, d1, d2, d3, d4, d5, d6, _⟩ := box7_cells e8
  have hbz : Below w.heap.size w wz := by rw [← hz7]; exact ((((((HB.out.setCell (p := ⟨w.heap.size, 0, none⟩) (Nat.le_refl _) _).setCell (p := ⟨w.heap.size, 1, none⟩) (Nat.le_refl _) _).setCell (p := ⟨w.heap.size, 2, none⟩) (Nat.le_refl _) _).setCell (p := ⟨w.heap.size, 3, none⟩) (Nat.le_refl _) _).setCell (p := ⟨w.heap.size, 4, none⟩) (Nat.le_refl _) _).setCell (p := ⟨w.heap.size, 5, none⟩) (Nat.le_refl _) _).setCell (p := ⟨w.heap.size, 6, none⟩) (Nat.le_refl _) _
  refine bodyPost_ret (v := .agg #[.int .i64 3, .string ⟨tx.toArray⟩, .string ⟨#[]⟩, .slice none 0 0, .slice none 0 0, .int .i64 (z : Int), .int .i64 0]) (by simp [results, Tryz.results27, go_sem, d0, d1, d2, d3, d4, d5, d6]) rfl ?_
  exact ⟨hbz.alloc hbz.size _, _, _, _, _, _, rfl, inF_leaf _ _ _ 3 (bT tx) .empty (by show tx.toArray.size ≤ _; have := HTx.out; simpa using this) (by decide)⟩

set_option maxRecDepth 100000 in
set_option maxHeartbeats 3200000 in
theorem w_5Read_k11 (s : ByteArray) (hs : s.size ≤ 1048576) (h d p : Nat) (hp : p ≤ s.size) (a z : Nat) (tx : List UInt8) (htx : tx.length ≤ 140737488355328) (w : World) (HN : Calls Tryz.prog 26 #[.string s, .int .i64 (p : Int)] (w.alloc (.cells #[.int .i64 0, .string ⟨#[]⟩, .string ⟨#[]⟩, .slice none 0 0, .slice none 0 0, .int .i64 0, .int .i64 0] 72)) fun e w' => Below (w.alloc (.cells #[.int .i64 0, .string ⟨#[]⟩, .string ⟨#[]⟩, .slice none 0 0, .slice none 0 0, .int .i64 0, .int .i64 0] 72)).heap.size (w.alloc (.cells #[.int .i64 0, .string ⟨#[]⟩, .string ⟨#[]⟩, .slice none 0 0, .slice none 0 0, .int .i64 0, .int .i64 0] 72)) w' ∧ e = .returned (pc5 34 a z tx 0)) :
    Calls Tryz.prog 27 #[.string s, .int .i64 (p : Int), .int .i64 (d : Int)] w fun e w' => An5 h w (.ok (.mk 4 .empty (bT tx) [] []) z) e w' := by
  have HNN := Hid.mk HN
  have HTx := Hid.mk htx
  clear HN htx
  go_enter Tryz.func27, Tryz.ntmps27
  go_wp2_with fail
  refine HNN.out.mono ?_
  rintro e w1 ⟨hb1, rfl⟩
  obtain ⟨hsz, hbw, hbx⟩ := box_pc hb1
  rw [heap_alloc_new] at hbx
  obtain ⟨c0, c1, c2, c3, c4, c5, c6, f0, f1, f2, f3, f4, f5, f6⟩ := box7_cells hbx
  have HX := Hid.mk hbx
  have HB := Hid.mk hbw
  clear hb1 hbx hbw
  unfold pc5
  go_wp2_with fail
  (try simp only [Exit.inBlock, Exit.then])
  generalize hz7 : (((((((w1.setCell ⟨w.heap.size, 0, none⟩ (.int .i64 4)).setCell ⟨w.heap.size, 1, none⟩ (.string ⟨#[]⟩)).setCell ⟨w.heap.size, 2, none⟩ (.string ⟨tx.toArray⟩)).setCell ⟨w.heap.size, 3, none⟩ (.slice none 0 0)).setCell ⟨w.heap.size, 4, none⟩ (.slice none 0 0)).setCell ⟨w.heap.size, 5, none⟩ (.int .i64 (z : Int))).setCell ⟨w.heap.size, 6, none⟩ (.int .i64 0)) = wz
  obtain ⟨e7, k7, s7⟩ := rbox_set7 w1 _ _ _ _ _ _ _ _ _ _ _ _ _ _ _ _ HX.out wz hz7.symm
  have e8 := (Below.heap_alloc wz (.cells #[.int .u8 34, .int .i64 (a : Int), .int .i64 (z : Int), .string ⟨tx.toArray⟩, .int .i64 0] 69) w.heap.size (by omega)).trans e7
  obtain ⟨d0, d1, d2, d3, d4, d5, d6, _⟩ := box7_cells e8
  have hbz : Below w.heap.size w wz := by rw [← hz7]; exact ((((((HB.out.setCell (p := ⟨w.heap.size, 0, none⟩) (Nat.le_refl _) _).setCell (p := ⟨w.heap.size, 1, none⟩) (Nat.le_refl _) _).setCell (p := ⟨w.heap.size, 2, none⟩) (Nat.le_refl _) _).setCell (p := ⟨w.heap.size, 3, none⟩) (Nat.le_refl _) _).setCell (p := ⟨w.heap.size, 4, none⟩) (Nat.le_refl _) _).setCell (p := ⟨w.heap.size, 5, none⟩) (Nat.le_refl _) _).setCell (p := ⟨w.heap.size, 6, none⟩) (Nat.le_refl _) _
  refine bodyPost_ret (v := .agg #[.int .i64 4, .string ⟨#[]⟩, .string ⟨tx.toArray⟩, .slice none 0 0, .slice none 0 0, .int .i64 (z : Int), .int .i64 0]) (by simp [results, Tryz.results27, go_sem, d0, d1, d2, d3, d4, d5, d6]) rfl ?_
  exact ⟨hbz.alloc hbz.size _, _, _, _, _, _, rfl, inF_leaf _ _ _ 4 .empty (bT tx) (by decide) (by show tx.toArray.size ≤ _; have := HTx.out; simpa using this)⟩

end Go.Proofs.YtcbngdkekdhfeaaGreatDoor
namespace Go.Proofs.YtcbngdkekdhfeaaGreatDoor
open Go.RowKit Go.Shelf
set_option linter.unusedVariables false
set_option linter.unusedSimpArgs false
attribute [local go_sem] Oper.semAt_some

set_option maxRecDepth 100000 in
set_option maxHeartbeats 3200000 in
theorem w_5Read_bad (s : ByteArray) (hs : s.size ≤ 1048576) (h d p : Nat) (hp : p ≤ s.size) (a z : Nat) (tx : List UInt8) (cd : Nat) (hcd : cd ≠ 0) (w : World) (HN : Calls Tryz.prog 26 #[.string s, .int .i64 (p : Int)] (w.alloc (.cells #[.int .i64 0, .string ⟨#[]⟩, .string ⟨#[]⟩, .slice none 0 0, .slice none 0 0, .int .i64 0, .int .i64 0] 72)) fun e w' => Below (w.alloc (.cells #[.int .i64 0, .string ⟨#[]⟩, .string ⟨#[]⟩, .slice none 0 0, .slice none 0 0, .int .i64 0, .int .i64 0] 72)).heap.size (w.alloc (.cells #[.int .i64 0, .string ⟨#[]⟩, .string ⟨#[]⟩, .slice none 0 0, .slice none 0 0, .int .i64 0, .int .i64 0] 72)) w' ∧ ∃ sg, e = .returned (pc5 sg a z tx cd)) :
    Calls Tryz.prog 27 #[.string s, .int .i64 (p : Int), .int .i64 (d : Int)] w fun e w' => An5 h w (.bad cd a) e w' := by
  have HNN := Hid.mk HN
  clear HN
  have HC0 := Hid.mk hcd
  have hcb : (((cd : Nat) : Int) == 0) = false := by rw [beq_eq_false_iff_ne]; omega
  have hcn : ¬ ((cd : Nat) : Int) = 0 := by omega
  clear hcd
  have HWr : Hid (∀ (sg : Nat) (u : World), Calls Tryz.prog 46 #[.agg #[.int .u8 (sg : Int), .int .i64 (a : Int), .int .i64 (z : Int), .string ⟨tx.toArray⟩, .int .i64 (cd : Int)]] u fun e w' => Below u.heap.size u w' ∧ e = .returned (bad5 a cd))   := fun sg u => by
    have hw := w_5wrong sg a z tx cd u
    rw [if_neg HC0.out] at hw
    exact hw
  go_enter Tryz.func27, Tryz.ntmps27
  go_wp2_with fail
  refine HNN.out.mono ?_
  rintro e w1 ⟨hb1, sg, rfl⟩
  obtain ⟨hsz, hbw, hbx⟩ := box_pc hb1
  rw [heap_alloc_new] at hbx
  have HX1 := Hid.mk hbx
  have HB1 := Hid.mk hbw
  clear hb1 hbx hbw
  unfold pc5
  go_wp2_with fail
  refine (HWr.out sg _).mono ?_
  rintro e w2 ⟨hb2, rfl⟩
  have hz2 := hb2.size
  rw [World.size_alloc] at hz2
  have hbx : w2.heap[w.heap.size]? = some (.cells #[.int .i64 0, .string ⟨#[]⟩, .string ⟨#[]⟩, .slice none 0 0, .slice none 0 0, .int .i64 0, .int .i64 0] 72 (0, 0)) := (hb2.block _ (by simp; omega)).trans ((Below.heap_alloc _ _ _ hsz).trans HX1.out)
  have hbw : Below w.heap.size w w2 := (HB1.out.alloc HB1.out.size _).trans (hb2.mono (by simp; omega))
  obtain ⟨c0, c1, c2, c3, c4, c5, c6, f0, f1, f2, f3, f4, f5, f6⟩ := box7_cells hbx
  have HX := Hid.mk hbx
  have HB := Hid.mk hbw
  clear hb2 hbx hbw hz2
  unfold bad5 ans5
  go_wp2_with fail
  (try simp only [Exit.inBlock, Exit.then])
  generalize hz7 : (((((((w2.setCell ⟨w.heap.size, 0, none⟩ (.int .i64 0)).setCell ⟨w.heap.size, 1, none⟩ (.string ⟨#[]⟩)).setCell ⟨w.heap.size, 2, none⟩ (.string ⟨#[]⟩)).setCell ⟨w.heap.size, 3, none⟩ (.slice none 0 0)).setCell ⟨w.heap.size, 4, none⟩ (.slice none 0 0)).setCell ⟨w.heap.size, 5, none⟩ (.int .i64 (a : Int))).setCell ⟨w.heap.size, 6, none⟩ (.int .i64 (cd : Int))) = wz
  obtain ⟨e7, k7, s7⟩ := rbox_set7 w2 _ _ _ _ _ _ _ _ _ _ _ _ _ _ _ _ HX.out wz hz7.symm
  obtain ⟨d0, d1, d2, d3, d4, d5, d6, _⟩ := box7_cells e7
  have hbz : Below w.heap.size w wz := by rw [← hz7]; exact ((((((HB.out.setCell (p := ⟨w.heap.size, 0, none⟩) (by show w.heap.size ≤ w.heap.size; omega) _).setCell (p := ⟨w.heap.size, 1, none⟩) (by show w.heap.size ≤ w.heap.size; omega) _).setCell (p := ⟨w.heap.size, 2, none⟩) (by show w.heap.size ≤ w.heap.size; omega) _).setCell (p := ⟨w.heap.size, 3, none⟩) (by show w.heap.size ≤ w.heap.size; omega) _).setCell (p := ⟨w.heap.size, 4, none⟩) (by show w.heap.size ≤ w.heap.size; omega) _).setCell (p := ⟨w.heap.size, 5, none⟩) (by show w.heap.size ≤ w.heap.size; omega) _).setCell (p := ⟨w.heap.size, 6, none⟩) (by show w.heap.size ≤ w.heap.size; omega) _
  refine bodyPost_ret (v := .agg #[.int .i64 0, .string ⟨#[]⟩, .string ⟨#[]⟩, .slice none 0 0, .slice none 0 0, .int .i64 (a : Int), .int .i64 (cd : Int)]) (by simp [results, Tryz.results27, go_sem, d0, d1, d2, d3, d4, d5, d6]) rfl ?_
  exact ⟨hbz, HC0.out, rfl⟩

set_option maxRecDepth 100000 in
set_option maxHeartbeats 3200000 in
theorem w_5Read_end (s : ByteArray) (hs : s.size ≤ 1048576) (h d p : Nat) (hp : p ≤ s.size) (a z : Nat) (tx : List UInt8) (w : World) (HN : Calls Tryz.prog 26 #[.string s, .int .i64 (p : Int)] (w.alloc (.cells #[.int .i64 0, .string ⟨#[]⟩, .string ⟨#[]⟩, .slice none 0 0, .slice none 0 0, .int .i64 0, .int .i64 0] 72)) fun e w' => Below (w.alloc (.cells #[.int .i64 0, .string ⟨#[]⟩, .string ⟨#[]⟩, .slice none 0 0, .slice none 0 0, .int .i64 0, .int .i64 0] 72)).heap.size (w.alloc (.cells #[.int .i64 0, .string ⟨#[]⟩, .string ⟨#[]⟩, .slice none 0 0, .slice none 0 0, .int .i64 0, .int .i64 0] 72)) w' ∧ e = .returned (pc5 36 a z tx 0)) :
    Calls Tryz.prog 27 #[.string s, .int .i64 (p : Int), .int .i64 (d : Int)] w fun e w' => An5 h w (.bad 50 a) e w' := by
  have HNN := Hid.mk HN
  clear HN
  have HWr : Hid (∀ u, Calls Tryz.prog 46 #[.agg #[.int .u8 36, .int .i64 (a : Int), .int .i64 (z : Int), .string ⟨tx.toArray⟩, .int .i64 0]] u fun e w' => Below u.heap.size u w' ∧ e = .returned (bad5 a 50)) := fun u => by
    have hw := w_5wrong 36 a z tx 0 u
    rw [if_pos rfl, if_pos rfl] at hw
    exact hw
  go_enter Tryz.func27, Tryz.ntmps27
  go_wp2_with fail
  refine HNN.out.mono ?_
  rintro e w1 ⟨hb1, rfl⟩
  obtain ⟨hsz, hbw, hbx⟩ := box_pc hb1
  rw [heap_alloc_new] at hbx
  have HX1 := Hid.mk hbx
  have HB1 := Hid.mk hbw
  clear hb1 hbx hbw
  unfold pc5
  go_wp2_with fail
  refine (HWr.out _).mono ?_
  rintro e w2 ⟨hb2, rfl⟩
  have hz2 := hb2.size
  rw [World.size_alloc] at hz2
  have hbx : w2.heap[w.heap.size]? = some (.cells #[.int .i64 0, .string ⟨#[]⟩, .string ⟨#[]⟩, .slice none 0 0, .slice none 0 0, .int .i64 0, .int .i64 0] 72 (0, 0)) := (hb2.block _ (by simp; omega)).trans ((Below.heap_alloc _ _ _ hsz).trans HX1.out)
  have hbw : Below w.heap.size w w2 := (HB1.out.alloc HB1.out.size _).trans (hb2.mono (by simp; omega))
  obtain ⟨c0, c1, c2, c3, c4, c5, c6, f0, f1, f2, f3, f4, f5, f6⟩ := box7_cells hbx
  have HX := Hid.mk hbx
  have HB := Hid.mk hbw
  clear hb2 hbx hbw hz2
  unfold bad5 ans5
  go_wp2_with fail
  (try simp only [Exit.inBlock, Exit.then])
  generalize hz7 : (((((((w2.setCell ⟨w.heap.size, 0, none⟩ (.int .i64 0)).setCell ⟨w.heap.size, 1, none⟩ (.string ⟨#[]⟩)).setCell ⟨w.heap.size, 2, none⟩ (.string ⟨#[]⟩)).setCell ⟨w.heap.size, 3, none⟩ (.slice none 0 0)).setCell ⟨w.heap.size, 4, none⟩ (.slice none 0 0)).setCell ⟨w.heap.size, 5, none⟩ (.int .i64 (a : Int))).setCell ⟨w.heap.size, 6, none⟩ (.int .i64 50)) = wz
  obtain ⟨e7, k7, s7⟩ := rbox_set7 w2 _ _ _ _ _ _ _ _ _ _ _ _ _ _ _ _ HX.out wz hz7.symm
  obtain ⟨d0, d1, d2, d3, d4, d5, d6, _⟩ := box7_cells e7
  have hbz : Below w.heap.size w wz := by rw [← hz7]; exact ((((((HB.out.setCell (p := ⟨w.heap.size, 0, none⟩) (by show w.heap.size ≤ w.heap.size; omega) _).setCell (p := ⟨w.heap.size, 1, none⟩) (by show w.heap.size ≤ w.heap.size; omega) _).setCell (p := ⟨w.heap.size, 2, none⟩) (by show w.heap.size ≤ w.heap.size; omega) _).setCell (p := ⟨w.heap.size, 3, none⟩) (by show w.heap.size ≤ w.heap.size; omega) _).setCell (p := ⟨w.heap.size, 4, none⟩) (by show w.heap.size ≤ w.heap.size; omega) _).setCell (p := ⟨w.heap.size, 5, none⟩) (by show w.heap.size ≤ w.heap.size; omega) _).setCell (p := ⟨w.heap.size, 6, none⟩) (by show w.heap.size ≤ w.heap.size; omega) _
  refine bodyPost_ret (v := .agg #[.int .i64 0, .string ⟨#[]⟩, .string ⟨#[]⟩, .slice none 0 0, .slice none 0 0, .int .i64 (a : Int), .int .i64 50]) (by simp [results, Tryz.results27, go_sem, d0, d1, d2, d3, d4, d5, d6]) rfl ?_
  exact ⟨hbz, by omega, rfl⟩

set_option maxRecDepth 100000 in
set_option maxHeartbeats 3200000 in
theorem w_5Read_k2 (s : ByteArray) (hs : s.size ≤ 1048576) (h d p : Nat) (hp : p ≤ s.size) (a z : Nat) (tx : List UInt8) (w : World) (HN : Calls Tryz.prog 26 #[.string s, .int .i64 (p : Int)] (w.alloc (.cells #[.int .i64 0, .string ⟨#[]⟩, .string ⟨#[]⟩, .slice none 0 0, .slice none 0 0, .int .i64 0, .int .i64 0] 72)) fun e w' => Below (w.alloc (.cells #[.int .i64 0, .string ⟨#[]⟩, .string ⟨#[]⟩, .slice none 0 0, .slice none 0 0, .int .i64 0, .int .i64 0] 72)).heap.size (w.alloc (.cells #[.int .i64 0, .string ⟨#[]⟩, .string ⟨#[]⟩, .slice none 0 0, .slice none 0 0, .int .i64 0, .int .i64 0] 72)) w' ∧ e = .returned (pc5 125 a z tx 0)) :
    Calls Tryz.prog 27 #[.string s, .int .i64 (p : Int), .int .i64 (d : Int)] w fun e w' => An5 h w (.bad 51 a) e w' := by
  have HNN := Hid.mk HN
  clear HN
  have HWr : Hid (∀ u, Calls Tryz.prog 46 #[.agg #[.int .u8 125, .int .i64 (a : Int), .int .i64 (z : Int), .string ⟨tx.toArray⟩, .int .i64 0]] u fun e w' => Below u.heap.size u w' ∧ e = .returned (bad5 a 51)) := fun u => by
    have hw := w_5wrong 125 a z tx 0 u
    rw [if_pos rfl, if_neg (by omega)] at hw
    exact hw
  go_enter Tryz.func27, Tryz.ntmps27
  go_wp2_with fail
  refine HNN.out.mono ?_
  rintro e w1 ⟨hb1, rfl⟩
  obtain ⟨hsz, hbw, hbx⟩ := box_pc hb1
  rw [heap_alloc_new] at hbx
  have HX1 := Hid.mk hbx
  have HB1 := Hid.mk hbw
  clear hb1 hbx hbw
  unfold pc5
  go_wp2_with fail
  refine (HWr.out _).mono ?_
  rintro e w2 ⟨hb2, rfl⟩
  have hz2 := hb2.size
  rw [World.size_alloc] at hz2
  have hbx : w2.heap[w.heap.size]? = some (.cells #[.int .i64 0, .string ⟨#[]⟩, .string ⟨#[]⟩, .slice none 0 0, .slice none 0 0, .int .i64 0, .int .i64 0] 72 (0, 0)) := (hb2.block _ (by simp; omega)).trans ((Below.heap_alloc _ _ _ hsz).trans HX1.out)
  have hbw : Below w.heap.size w w2 := (HB1.out.alloc HB1.out.size _).trans (hb2.mono (by simp; omega))
  obtain ⟨c0, c1, c2, c3, c4, c5, c6, f0, f1, f2, f3, f4, f5, f6⟩ := box7_cells hbx
  have HX := Hid.mk hbx
  have HB := Hid.mk hbw
  clear hb2 hbx hbw hz2
  unfold bad5 ans5
  go_wp2_with fail
  (try simp only [Exit.inBlock, Exit.then])
  generalize hz7 : (((((((w2.setCell ⟨w.heap.size, 0, none⟩ (.int .i64 0)).setCell ⟨w.heap.size, 1, none⟩ (.string ⟨#[]⟩)).setCell ⟨w.heap.size, 2, none⟩ (.string ⟨#[]⟩)).setCell ⟨w.heap.size, 3, none⟩ (.slice none 0 0)).setCell ⟨w.heap.size, 4, none⟩ (.slice none 0 0)).setCell ⟨w.heap.size, 5, none⟩ (.int .i64 (a : Int))).setCell ⟨w.heap.size, 6, none⟩ (.int .i64 51)) = wz
  obtain ⟨e7, k7, s7⟩ := rbox_set7 w2 _ _ _ _ _ _ _ _ _ _ _ _ _ _ _ _ HX.out wz hz7.symm
  obtain ⟨d0, d1, d2, d3, d4, d5, d6, _⟩ := box7_cells e7
  have hbz : Below w.heap.size w wz := by rw [← hz7]; exact ((((((HB.out.setCell (p := ⟨w.heap.size, 0, none⟩) (by show w.heap.size ≤ w.heap.size; omega) _).setCell (p := ⟨w.heap.size, 1, none⟩) (by show w.heap.size ≤ w.heap.size; omega) _).setCell (p := ⟨w.heap.size, 2, none⟩) (by show w.heap.size ≤ w.heap.size; omega) _).setCell (p := ⟨w.heap.size, 3, none⟩) (by show w.heap.size ≤ w.heap.size; omega) _).setCell (p := ⟨w.heap.size, 4, none⟩) (by show w.heap.size ≤ w.heap.size; omega) _).setCell (p := ⟨w.heap.size, 5, none⟩) (by show w.heap.size ≤ w.heap.size; omega) _).setCell (p := ⟨w.heap.size, 6, none⟩) (by show w.heap.size ≤ w.heap.size; omega) _
  refine bodyPost_ret (v := .agg #[.int .i64 0, .string ⟨#[]⟩, .string ⟨#[]⟩, .slice none 0 0, .slice none 0 0, .int .i64 (a : Int), .int .i64 51]) (by simp [results, Tryz.results27, go_sem, d0, d1, d2, d3, d4, d5, d6]) rfl ?_
  exact ⟨hbz, by omega, rfl⟩

set_option maxRecDepth 100000 in
set_option maxHeartbeats 3200000 in
theorem w_5Read_k4 (s : ByteArray) (hs : s.size ≤ 1048576) (h d p : Nat) (hp : p ≤ s.size) (a z : Nat) (tx : List UInt8) (w : World) (HN : Calls Tryz.prog 26 #[.string s, .int .i64 (p : Int)] (w.alloc (.cells #[.int .i64 0, .string ⟨#[]⟩, .string ⟨#[]⟩, .slice none 0 0, .slice none 0 0, .int .i64 0, .int .i64 0] 72)) fun e w' => Below (w.alloc (.cells #[.int .i64 0, .string ⟨#[]⟩, .string ⟨#[]⟩, .slice none 0 0, .slice none 0 0, .int .i64 0, .int .i64 0] 72)).heap.size (w.alloc (.cells #[.int .i64 0, .string ⟨#[]⟩, .string ⟨#[]⟩, .slice none 0 0, .slice none 0 0, .int .i64 0, .int .i64 0] 72)) w' ∧ e = .returned (pc5 93 a z tx 0)) :
    Calls Tryz.prog 27 #[.string s, .int .i64 (p : Int), .int .i64 (d : Int)] w fun e w' => An5 h w (.bad 51 a) e w' := by
  have HNN := Hid.mk HN
  clear HN
  have HWr : Hid (∀ u, Calls Tryz.prog 46 #[.agg #[.int .u8 93, .int .i64 (a : Int), .int .i64 (z : Int), .string ⟨tx.toArray⟩, .int .i64 0]] u fun e w' => Below u.heap.size u w' ∧ e = .returned (bad5 a 51)) := fun u => by
    have hw := w_5wrong 93 a z tx 0 u
    rw [if_pos rfl, if_neg (by omega)] at hw
    exact hw
  go_enter Tryz.func27, Tryz.ntmps27
  go_wp2_with fail
  refine HNN.out.mono ?_
  rintro e w1 ⟨hb1, rfl⟩
  obtain ⟨hsz, hbw, hbx⟩ := box_pc hb1
  rw [heap_alloc_new] at hbx
  have HX1 := Hid.mk hbx
  have HB1 := Hid.mk hbw
  clear hb1 hbx hbw
  unfold pc5
  go_wp2_with fail
  refine (HWr.out _).mono ?_
  rintro e w2 ⟨hb2, rfl⟩
  have hz2 := hb2.size
  rw [World.size_alloc] at hz2
  have hbx : w2.heap[w.heap.size]? = some (.cells #[.int .i64 0, .string ⟨#[]⟩, .string ⟨#[]⟩, .slice none 0 0, .slice none 0 0, .int .i64 0, .int .i64 0] 72 (0, 0)) := (hb2.block _ (by simp; omega)).trans ((Below.heap_alloc _ _ _ hsz).trans HX1.out)
  have hbw : Below w.heap.size w w2 := (HB1.out.alloc HB1.out.size _).trans (hb2.mono (by simp; omega))
  obtain ⟨c0, c1, c2, c3, c4, c5, c6, f0, f1, f2, f3, f4, f5, f6⟩ := box7_cells hbx
  have HX := Hid.mk hbx
  have HB := Hid.mk hbw
  clear hb2 hbx hbw hz2
  unfold bad5 ans5
  go_wp2_with fail
  (try simp only [Exit.inBlock, Exit.then])
  generalize hz7 : (((((((w2.setCell ⟨w.heap.size, 0, none⟩ (.int .i64 0)).setCell ⟨w.heap.size, 1, none⟩ (.string ⟨#[]⟩)).setCell ⟨w.heap.size, 2, none⟩ (.string ⟨#[]⟩)).setCell ⟨w.heap.size, 3, none⟩ (.slice none 0 0)).setCell ⟨w.heap.size, 4, none⟩ (.slice none 0 0)).setCell ⟨w.heap.size, 5, none⟩ (.int .i64 (a : Int))).setCell ⟨w.heap.size, 6, none⟩ (.int .i64 51)) = wz
  obtain ⟨e7, k7, s7⟩ := rbox_set7 w2 _ _ _ _ _ _ _ _ _ _ _ _ _ _ _ _ HX.out wz hz7.symm
  obtain ⟨d0, d1, d2, d3, d4, d5, d6, _⟩ := box7_cells e7
  have hbz : Below w.heap.size w wz := by rw [← hz7]; exact ((((((HB.out.setCell (p := ⟨w.heap.size, 0, none⟩) (by show w.heap.size ≤ w.heap.size; omega) _).setCell (p := ⟨w.heap.size, 1, none⟩) (by show w.heap.size ≤ w.heap.size; omega) _).setCell (p := ⟨w.heap.size, 2, none⟩) (by show w.heap.size ≤ w.heap.size; omega) _).setCell (p := ⟨w.heap.size, 3, none⟩) (by show w.heap.size ≤ w.heap.size; omega) _).setCell (p := ⟨w.heap.size, 4, none⟩) (by show w.heap.size ≤ w.heap.size; omega) _).setCell (p := ⟨w.heap.size, 5, none⟩) (by show w.heap.size ≤ w.heap.size; omega) _).setCell (p := ⟨w.heap.size, 6, none⟩) (by show w.heap.size ≤ w.heap.size; omega) _
  refine bodyPost_ret (v := .agg #[.int .i64 0, .string ⟨#[]⟩, .string ⟨#[]⟩, .slice none 0 0, .slice none 0 0, .int .i64 (a : Int), .int .i64 51]) (by simp [results, Tryz.results27, go_sem, d0, d1, d2, d3, d4, d5, d6]) rfl ?_
  exact ⟨hbz, by omega, rfl⟩

set_option maxRecDepth 100000 in
set_option maxHeartbeats 3200000 in
theorem w_5Read_k5 (s : ByteArray) (hs : s.size ≤ 1048576) (h d p : Nat) (hp : p ≤ s.size) (a z : Nat) (tx : List UInt8) (w : World) (HN : Calls Tryz.prog 26 #[.string s, .int .i64 (p : Int)] (w.alloc (.cells #[.int .i64 0, .string ⟨#[]⟩, .string ⟨#[]⟩, .slice none 0 0, .slice none 0 0, .int .i64 0, .int .i64 0] 72)) fun e w' => Below (w.alloc (.cells #[.int .i64 0, .string ⟨#[]⟩, .string ⟨#[]⟩, .slice none 0 0, .slice none 0 0, .int .i64 0, .int .i64 0] 72)).heap.size (w.alloc (.cells #[.int .i64 0, .string ⟨#[]⟩, .string ⟨#[]⟩, .slice none 0 0, .slice none 0 0, .int .i64 0, .int .i64 0] 72)) w' ∧ e = .returned (pc5 58 a z tx 0)) :
    Calls Tryz.prog 27 #[.string s, .int .i64 (p : Int), .int .i64 (d : Int)] w fun e w' => An5 h w (.bad 51 a) e w' := by
  have HNN := Hid.mk HN
  clear HN
  have HWr : Hid (∀ u, Calls Tryz.prog 46 #[.agg #[.int .u8 58, .int .i64 (a : Int), .int .i64 (z : Int), .string ⟨tx.toArray⟩, .int .i64 0]] u fun e w' => Below u.heap.size u w' ∧ e = .returned (bad5 a 51)) := fun u => by
    have hw := w_5wrong 58 a z tx 0 u
    rw [if_pos rfl, if_neg (by omega)] at hw
    exact hw
  go_enter Tryz.func27, Tryz.ntmps27
  go_wp2_with fail
  refine HNN.out.mono ?_
  rintro e w1 ⟨hb1, rfl⟩
  obtain ⟨hsz, hbw, hbx⟩ := box_pc hb1
  rw [heap_alloc_new] at hbx
  have HX1 := Hid.mk hbx
  have HB1 := Hid.mk hbw
  clear hb1 hbx hbw
  unfold pc5
  go_wp2_with fail
  refine (HWr.out _).mono ?_
  rintro e w2 ⟨hb2, rfl⟩
  have hz2 := hb2.size
  rw [World.size_alloc] at hz2
  have hbx : w2.heap[w.heap.size]? = some (.cells #[.int .i64 0, .string ⟨#[]⟩, .string ⟨#[]⟩, .slice none 0 0, .slice none 0 0, .int .i64 0, .int .i64 0] 72 (0, 0)) := (hb2.block _ (by simp; omega)).trans ((Below.heap_alloc _ _ _ hsz).trans HX1.out)
  have hbw : Below w.heap.size w w2 := (HB1.out.alloc HB1.out.size _).trans (hb2.mono (by simp; omega))
  obtain ⟨c0, c1, c2, c3, c4, c5, c6, f0, f1, f2, f3, f4, f5, f6⟩ := box7_cells hbx
  have HX := Hid.mk hbx
  have HB := Hid.mk hbw
  clear hb2 hbx hbw hz2
  unfold bad5 ans5
  go_wp2_with fail
  (try simp only [Exit.inBlock, Exit.then])
  generalize hz7 : (((((((w2.setCell ⟨w.heap.size, 0, none⟩ (.int .i64 0)).setCell ⟨w.heap.size, 1, none⟩ (.string ⟨#[]⟩)).setCell ⟨w.heap.size, 2, none⟩ (.string ⟨#[]⟩)).setCell ⟨w.heap.size, 3, none⟩ (.slice none 0 0)).setCell ⟨w.heap.size, 4, none⟩ (.slice none 0 0)).setCell ⟨w.heap.size, 5, none⟩ (.int .i64 (a : Int))).setCell ⟨w.heap.size, 6, none⟩ (.int .i64 51)) = wz
  obtain ⟨e7, k7, s7⟩ := rbox_set7 w2 _ _ _ _ _ _ _ _ _ _ _ _ _ _ _ _ HX.out wz hz7.symm
  obtain ⟨d0, d1, d2, d3, d4, d5, d6, _⟩ := box7_cells e7
  have hbz : Below w.heap.size w wz := by rw [← hz7]; exact ((((((HB.out.setCell (p := ⟨w.heap.size, 0, none⟩) (by show w.heap.size ≤ w.heap.size; omega) _).setCell (p := ⟨w.heap.size, 1, none⟩) (by show w.heap.size ≤ w.heap.size; omega) _).setCell (p := ⟨w.heap.size, 2, none⟩) (by show w.heap.size ≤ w.heap.size; omega) _).setCell (p := ⟨w.heap.size, 3, none⟩) (by show w.heap.size ≤ w.heap.size; omega) _).setCell (p := ⟨w.heap.size, 4, none⟩) (by show w.heap.size ≤ w.heap.size; omega) _).setCell (p := ⟨w.heap.size, 5, none⟩) (by show w.heap.size ≤ w.heap.size; omega) _).setCell (p := ⟨w.heap.size, 6, none⟩) (by show w.heap.size ≤ w.heap.size; omega) _
  refine bodyPost_ret (v := .agg #[.int .i64 0, .string ⟨#[]⟩, .string ⟨#[]⟩, .slice none 0 0, .slice none 0 0, .int .i64 (a : Int), .int .i64 51]) (by simp [results, Tryz.results27, go_sem, d0, d1, d2, d3, d4, d5, d6]) rfl ?_
  exact ⟨hbz, by omega, rfl⟩

set_option maxRecDepth 100000 in
set_option maxHeartbeats 3200000 in
theorem w_5Read_k6 (s : ByteArray) (hs : s.size ≤ 1048576) (h d p : Nat) (hp : p ≤ s.size) (a z : Nat) (tx : List UInt8) (w : World) (HN : Calls Tryz.prog 26 #[.string s, .int .i64 (p : Int)] (w.alloc (.cells #[.int .i64 0, .string ⟨#[]⟩, .string ⟨#[]⟩, .slice none 0 0, .slice none 0 0, .int .i64 0, .int .i64 0] 72)) fun e w' => Below (w.alloc (.cells #[.int .i64 0, .string ⟨#[]⟩, .string ⟨#[]⟩, .slice none 0 0, .slice none 0 0, .int .i64 0, .int .i64 0] 72)).heap.size (w.alloc (.cells #[.int .i64 0, .string ⟨#[]⟩, .string ⟨#[]⟩, .slice none 0 0, .slice none 0 0, .int .i64 0, .int .i64 0] 72)) w' ∧ e = .returned (pc5 44 a z tx 0)) :
    Calls Tryz.prog 27 #[.string s, .int .i64 (p : Int), .int .i64 (d : Int)] w fun e w' => An5 h w (.bad 51 a) e w' := by
  have HNN := Hid.mk HN
  clear HN
  have HWr : Hid (∀ u, Calls Tryz.prog 46 #[.agg #[.int .u8 44, .int .i64 (a : Int), .int .i64 (z : Int), .string ⟨tx.toArray⟩, .int .i64 0]] u fun e w' => Below u.heap.size u w' ∧ e = .returned (bad5 a 51)) := fun u => by
    have hw := w_5wrong 44 a z tx 0 u
    rw [if_pos rfl, if_neg (by omega)] at hw
    exact hw
  go_enter Tryz.func27, Tryz.ntmps27
  go_wp2_with fail
  refine HNN.out.mono ?_
  rintro e w1 ⟨hb1, rfl⟩
  obtain ⟨hsz, hbw, hbx⟩ := box_pc hb1
  rw [heap_alloc_new] at hbx
  have HX1 := Hid.mk hbx
  have HB1 := Hid.mk hbw
  clear hb1 hbx hbw
  unfold pc5
  go_wp2_with fail
  refine (HWr.out _).mono ?_
  rintro e w2 ⟨hb2, rfl⟩
  have hz2 := hb2.size
  rw [World.size_alloc] at hz2
  have hbx : w2.heap[w.heap.size]? = some (.cells #[.int .i64 0, .string ⟨#[]⟩, .string ⟨#[]⟩, .slice none 0 0, .slice none 0 0, .int .i64 0, .int .i64 0] 72 (0, 0)) := (hb2.block _ (by simp; omega)).trans ((Below.heap_alloc _ _ _ hsz).trans HX1.out)
  have hbw : Below w.heap.size w w2 := (HB1.out.alloc HB1.out.size _).trans (hb2.mono (by simp; omega))
  obtain ⟨c0, c1, c2, c3, c4, c5, c6, f0, f1, f2, f3, f4, f5, f6⟩ := box7_cells hbx
  have HX := Hid.mk hbx
  have HB := Hid.mk hbw
  clear hb2 hbx hbw hz2
  unfold bad5 ans5
  go_wp2_with fail
  (try simp only [Exit.inBlock, Exit.then])
  generalize hz7 : (((((((w2.setCell ⟨w.heap.size, 0, none⟩ (.int .i64 0)).setCell ⟨w.heap.size, 1, none⟩ (.string ⟨#[]⟩)).setCell ⟨w.heap.size, 2, none⟩ (.string ⟨#[]⟩)).setCell ⟨w.heap.size, 3, none⟩ (.slice none 0 0)).setCell ⟨w.heap.size, 4, none⟩ (.slice none 0 0)).setCell ⟨w.heap.size, 5, none⟩ (.int .i64 (a : Int))).setCell ⟨w.heap.size, 6, none⟩ (.int .i64 51)) = wz
  obtain ⟨e7, k7, s7⟩ := rbox_set7 w2 _ _ _ _ _ _ _ _ _ _ _ _ _ _ _ _ HX.out wz hz7.symm
  obtain ⟨d0, d1, d2, d3, d4, d5, d6, _⟩ := box7_cells e7
  have hbz : Below w.heap.size w wz := by rw [← hz7]; exact ((((((HB.out.setCell (p := ⟨w.heap.size, 0, none⟩) (by show w.heap.size ≤ w.heap.size; omega) _).setCell (p := ⟨w.heap.size, 1, none⟩) (by show w.heap.size ≤ w.heap.size; omega) _).setCell (p := ⟨w.heap.size, 2, none⟩) (by show w.heap.size ≤ w.heap.size; omega) _).setCell (p := ⟨w.heap.size, 3, none⟩) (by show w.heap.size ≤ w.heap.size; omega) _).setCell (p := ⟨w.heap.size, 4, none⟩) (by show w.heap.size ≤ w.heap.size; omega) _).setCell (p := ⟨w.heap.size, 5, none⟩) (by show w.heap.size ≤ w.heap.size; omega) _).setCell (p := ⟨w.heap.size, 6, none⟩) (by show w.heap.size ≤ w.heap.size; omega) _
  refine bodyPost_ret (v := .agg #[.int .i64 0, .string ⟨#[]⟩, .string ⟨#[]⟩, .slice none 0 0, .slice none 0 0, .int .i64 (a : Int), .int .i64 51]) (by simp [results, Tryz.results27, go_sem, d0, d1, d2, d3, d4, d5, d6]) rfl ?_
  exact ⟨hbz, by omega, rfl⟩

end Go.Proofs.YtcbngdkekdhfeaaGreatDoor
namespace Go.Proofs.YtcbngdkekdhfeaaGreatDoor
open Go.RowKit Go.Shelf
set_option linter.unusedVariables false
set_option linter.unusedSimpArgs false
attribute [local go_sem] Oper.semAt_some

set_option maxRecDepth 100000 in
set_option maxHeartbeats 3200000 in
theorem w_5Read_deep1 (s : ByteArray) (hs : s.size ≤ 1048576) (h d p : Nat) (hp : p ≤ s.size) (a z : Nat) (tx : List UInt8) (hd : 64 ≤ d) (w : World) (HN : Calls Tryz.prog 26 #[.string s, .int .i64 (p : Int)] (w.alloc (.cells #[.int .i64 0, .string ⟨#[]⟩, .string ⟨#[]⟩, .slice none 0 0, .slice none 0 0, .int .i64 0, .int .i64 0] 72)) fun e w' => Below (w.alloc (.cells #[.int .i64 0, .string ⟨#[]⟩, .string ⟨#[]⟩, .slice none 0 0, .slice none 0 0, .int .i64 0, .int .i64 0] 72)).heap.size (w.alloc (.cells #[.int .i64 0, .string ⟨#[]⟩, .string ⟨#[]⟩, .slice none 0 0, .slice none 0 0, .int .i64 0, .int .i64 0] 72)) w' ∧ e = .returned (pc5 123 a z tx 0)) :
    Calls Tryz.prog 27 #[.string s, .int .i64 (p : Int), .int .i64 (d : Int)] w fun e w' => An5 h w (.bad 52 a) e w' := by
  have HNN := Hid.mk HN
  clear HN
  have hd1 : (64 : Int) ≤ (d : Int) := by omega
  have hdb : decide ((64 : Int) ≤ (d : Int)) = true := decide_eq_true hd1
  have HBd := Hid.mk (fun u => w_5bad 52 a u)
  go_enter Tryz.func27, Tryz.ntmps27
  go_wp2_with fail
  refine HNN.out.mono ?_
  rintro e w1 ⟨hb1, rfl⟩
  obtain ⟨hsz, hbw, hbx⟩ := box_pc hb1
  rw [heap_alloc_new] at hbx
  have HX1 := Hid.mk hbx
  have HB1 := Hid.mk hbw
  clear hb1 hbx hbw
  unfold pc5
  go_wp2_with fail
  refine (HBd.out _).mono ?_
  rintro e w2 ⟨hb2, rfl⟩
  have hz2 := hb2.size
  rw [World.size_alloc] at hz2
  have hbx : w2.heap[w.heap.size]? = some (.cells #[.int .i64 0, .string ⟨#[]⟩, .string ⟨#[]⟩, .slice none 0 0, .slice none 0 0, .int .i64 0, .int .i64 0] 72 (0, 0)) := (hb2.block _ (by simp; omega)).trans ((Below.heap_alloc _ _ _ hsz).trans HX1.out)
  have hbw : Below w.heap.size w w2 := (HB1.out.alloc HB1.out.size _).trans (hb2.mono (by simp; omega))
  obtain ⟨c0, c1, c2, c3, c4, c5, c6, f0, f1, f2, f3, f4, f5, f6⟩ := box7_cells hbx
  have HX := Hid.mk hbx
  have HB := Hid.mk hbw
  clear hb2 hbx hbw hz2
  unfold bad5 ans5
  go_wp2_with fail
  (try simp only [Exit.inBlock, Exit.then])
  generalize hz7 : (((((((w2.setCell ⟨w.heap.size, 0, none⟩ (.int .i64 0)).setCell ⟨w.heap.size, 1, none⟩ (.string ⟨#[]⟩)).setCell ⟨w.heap.size, 2, none⟩ (.string ⟨#[]⟩)).setCell ⟨w.heap.size, 3, none⟩ (.slice none 0 0)).setCell ⟨w.heap.size, 4, none⟩ (.slice none 0 0)).setCell ⟨w.heap.size, 5, none⟩ (.int .i64 (a : Int))).setCell ⟨w.heap.size, 6, none⟩ (.int .i64 52)) = wz
  obtain ⟨e7, k7, s7⟩ := rbox_set7 w2 _ _ _ _ _ _ _ _ _ _ _ _ _ _ _ _ HX.out wz hz7.symm
  obtain ⟨d0, d1, d2, d3, d4, d5, d6, _⟩ := box7_cells e7
  have hbz : Below w.heap.size w wz := by rw [← hz7]; exact ((((((HB.out.setCell (p := ⟨w.heap.size, 0, none⟩) (by show w.heap.size ≤ w.heap.size; omega) _).setCell (p := ⟨w.heap.size, 1, none⟩) (by show w.heap.size ≤ w.heap.size; omega) _).setCell (p := ⟨w.heap.size, 2, none⟩) (by show w.heap.size ≤ w.heap.size; omega) _).setCell (p := ⟨w.heap.size, 3, none⟩) (by show w.heap.size ≤ w.heap.size; omega) _).setCell (p := ⟨w.heap.size, 4, none⟩) (by show w.heap.size ≤ w.heap.size; omega) _).setCell (p := ⟨w.heap.size, 5, none⟩) (by show w.heap.size ≤ w.heap.size; omega) _).setCell (p := ⟨w.heap.size, 6, none⟩) (by show w.heap.size ≤ w.heap.size; omega) _
  refine bodyPost_ret (v := .agg #[.int .i64 0, .string ⟨#[]⟩, .string ⟨#[]⟩, .slice none 0 0, .slice none 0 0, .int .i64 (a : Int), .int .i64 52]) (by simp [results, Tryz.results27, go_sem, d0, d1, d2, d3, d4, d5, d6]) rfl ?_
  exact ⟨hbz, by omega, rfl⟩

set_option maxRecDepth 100000 in
set_option maxHeartbeats 3200000 in
theorem w_5Read_deep3 (s : ByteArray) (hs : s.size ≤ 1048576) (h d p : Nat) (hp : p ≤ s.size) (a z : Nat) (tx : List UInt8) (hd : 64 ≤ d) (w : World) (HN : Calls Tryz.prog 26 #[.string s, .int .i64 (p : Int)] (w.alloc (.cells #[.int .i64 0, .string ⟨#[]⟩, .string ⟨#[]⟩, .slice none 0 0, .slice none 0 0, .int .i64 0, .int .i64 0] 72)) fun e w' => Below (w.alloc (.cells #[.int .i64 0, .string ⟨#[]⟩, .string ⟨#[]⟩, .slice none 0 0, .slice none 0 0, .int .i64 0, .int .i64 0] 72)).heap.size (w.alloc (.cells #[.int .i64 0, .string ⟨#[]⟩, .string ⟨#[]⟩, .slice none 0 0, .slice none 0 0, .int .i64 0, .int .i64 0] 72)) w' ∧ e = .returned (pc5 91 a z tx 0)) :
    Calls Tryz.prog 27 #[.string s, .int .i64 (p : Int), .int .i64 (d : Int)] w fun e w' => An5 h w (.bad 52 a) e w' := by
  have HNN := Hid.mk HN
  clear HN
  have hd1 : (64 : Int) ≤ (d : Int) := by omega
  have hdb : decide ((64 : Int) ≤ (d : Int)) = true := decide_eq_true hd1
  have HBd := Hid.mk (fun u => w_5bad 52 a u)
  go_enter Tryz.func27, Tryz.ntmps27
  go_wp2_with fail
  refine HNN.out.mono ?_
  rintro e w1 ⟨hb1, rfl⟩
  obtain ⟨hsz, hbw, hbx⟩ := box_pc hb1
  rw [heap_alloc_new] at hbx
  have HX1 := Hid.mk hbx
  have HB1 := Hid.mk hbw
  clear hb1 hbx hbw
  unfold pc5
  go_wp2_with fail
  refine (HBd.out _).mono ?_
  rintro e w2 ⟨hb2, rfl⟩
  have hz2 := hb2.size
  rw [World.size_alloc] at hz2
  have hbx : w2.heap[w.heap.size]? = some (.cells #[.int .i64 0, .string ⟨#[]⟩, .string ⟨#[]⟩, .slice none 0 0, .slice none 0 0, .int .i64 0, .int .i64 0] 72 (0, 0)) := (hb2.block _ (by simp; omega)).trans ((Below.heap_alloc _ _ _ hsz).trans HX1.out)
  have hbw : Below w.heap.size w w2 := (HB1.out.alloc HB1.out.size _).trans (hb2.mono (by simp; omega))
  obtain ⟨c0, c1, c2, c3, c4, c5, c6, f0, f1, f2, f3, f4, f5, f6⟩ := box7_cells hbx
  have HX := Hid.mk hbx
  have HB := Hid.mk hbw
  clear hb2 hbx hbw hz2
  unfold bad5 ans5
  go_wp2_with fail
  (try simp only [Exit.inBlock, Exit.then])
  generalize hz7 : (((((((w2.setCell ⟨w.heap.size, 0, none⟩ (.int .i64 0)).setCell ⟨w.heap.size, 1, none⟩ (.string ⟨#[]⟩)).setCell ⟨w.heap.size, 2, none⟩ (.string ⟨#[]⟩)).setCell ⟨w.heap.size, 3, none⟩ (.slice none 0 0)).setCell ⟨w.heap.size, 4, none⟩ (.slice none 0 0)).setCell ⟨w.heap.size, 5, none⟩ (.int .i64 (a : Int))).setCell ⟨w.heap.size, 6, none⟩ (.int .i64 52)) = wz
  obtain ⟨e7, k7, s7⟩ := rbox_set7 w2 _ _ _ _ _ _ _ _ _ _ _ _ _ _ _ _ HX.out wz hz7.symm
  obtain ⟨d0, d1, d2, d3, d4, d5, d6, _⟩ := box7_cells e7
  have hbz : Below w.heap.size w wz := by rw [← hz7]; exact ((((((HB.out.setCell (p := ⟨w.heap.size, 0, none⟩) (by show w.heap.size ≤ w.heap.size; omega) _).setCell (p := ⟨w.heap.size, 1, none⟩) (by show w.heap.size ≤ w.heap.size; omega) _).setCell (p := ⟨w.heap.size, 2, none⟩) (by show w.heap.size ≤ w.heap.size; omega) _).setCell (p := ⟨w.heap.size, 3, none⟩) (by show w.heap.size ≤ w.heap.size; omega) _).setCell (p := ⟨w.heap.size, 4, none⟩) (by show w.heap.size ≤ w.heap.size; omega) _).setCell (p := ⟨w.heap.size, 5, none⟩) (by show w.heap.size ≤ w.heap.size; omega) _).setCell (p := ⟨w.heap.size, 6, none⟩) (by show w.heap.size ≤ w.heap.size; omega) _
  refine bodyPost_ret (v := .agg #[.int .i64 0, .string ⟨#[]⟩, .string ⟨#[]⟩, .slice none 0 0, .slice none 0 0, .int .i64 (a : Int), .int .i64 52]) (by simp [results, Tryz.results27, go_sem, d0, d1, d2, d3, d4, d5, d6]) rfl ?_
  exact ⟨hbz, by omega, rfl⟩

set_option maxRecDepth 100000 in
set_option maxHeartbeats 3200000 in
theorem w_5Read_arr (s : ByteArray) (hs : s.size ≤ 1048576) (h d p : Nat) (hp : p ≤ s.size) (a z : Nat) (tx : List UInt8) (hd : d < 64) (r : Rd VT) (HA : ∀ u, Calls Tryz.prog 48 #[.string s, .int .i64 (z : Int), .int .i64 ((d : Int) + 1)] u fun e w' => An5 h u r e w') (w : World) (HN : Calls Tryz.prog 26 #[.string s, .int .i64 (p : Int)] (w.alloc (.cells #[.int .i64 0, .string ⟨#[]⟩, .string ⟨#[]⟩, .slice none 0 0, .slice none 0 0, .int .i64 0, .int .i64 0] 72)) fun e w' => Below (w.alloc (.cells #[.int .i64 0, .string ⟨#[]⟩, .string ⟨#[]⟩, .slice none 0 0, .slice none 0 0, .int .i64 0, .int .i64 0] 72)).heap.size (w.alloc (.cells #[.int .i64 0, .string ⟨#[]⟩, .string ⟨#[]⟩, .slice none 0 0, .slice none 0 0, .int .i64 0, .int .i64 0] 72)) w' ∧ e = .returned (pc5 91 a z tx 0)) :
    Calls Tryz.prog 27 #[.string s, .int .i64 (p : Int), .int .i64 (d : Int)] w fun e w' => An5 h w (r) e w' := by
  have HNN := Hid.mk HN
  clear HN
  have hd1 : ¬ (64 : Int) ≤ (d : Int) := by omega
  have hdb : decide ((64 : Int) ≤ (d : Int)) = false := decide_eq_false hd1
  have hwr : IntKind.i64.wrap ((d : Int) + 1) = (d : Int) + 1 := by rw [IntKind.wrap_i64]; omega
  have HAA := Hid.mk HA
  clear HA
  go_enter Tryz.func27, Tryz.ntmps27
  go_wp2_with fail
  refine HNN.out.mono ?_
  rintro e w1 ⟨hb1, rfl⟩
  obtain ⟨hsz, hbw, hbx⟩ := box_pc hb1
  rw [heap_alloc_new] at hbx
  have HX1 := Hid.mk hbx
  have HB1 := Hid.mk hbw
  clear hb1 hbx hbw
  unfold pc5
  go_wp2_with fail
  refine (HAA.out _).mono ?_
  rintro e w2 ⟨hb2, hm⟩
  have hz2 := hb2.size
  rw [World.size_alloc] at hz2
  have hbx : w2.heap[w.heap.size]? = some (.cells #[.int .i64 0, .string ⟨#[]⟩, .string ⟨#[]⟩, .slice none 0 0, .slice none 0 0, .int .i64 0, .int .i64 0] 72 (0, 0)) := (hb2.block _ (by simp; omega)).trans ((Below.heap_alloc _ _ _ hsz).trans HX1.out)
  have hbw : Below w.heap.size w w2 := (HB1.out.alloc HB1.out.size _).trans (hb2.mono (by simp; omega))
  obtain ⟨c0, c1, c2, c3, c4, c5, c6, f0, f1, f2, f3, f4, f5, f6⟩ := box7_cells hbx
  have HX := Hid.mk hbx
  have HB := Hid.mk hbw
  cases r with
  | bad er q =>
    obtain ⟨h0, rfl⟩ := hm
    have H0 := Hid.mk h0
    clear hb2 hbx hbw hz2 h0
    unfold bad5 ans5
    go_wp2_with fail
    (try simp only [Exit.inBlock, Exit.then])
    generalize hz7 : (((((((w2.setCell ⟨w.heap.size, 0, none⟩ (.int .i64 0)).setCell ⟨w.heap.size, 1, none⟩ (.string ⟨#[]⟩)).setCell ⟨w.heap.size, 2, none⟩ (.string ⟨#[]⟩)).setCell ⟨w.heap.size, 3, none⟩ (.slice none 0 0)).setCell ⟨w.heap.size, 4, none⟩ (.slice none 0 0)).setCell ⟨w.heap.size, 5, none⟩ (.int .i64 (q : Int))).setCell ⟨w.heap.size, 6, none⟩ (.int .i64 (er : Int))) = wz
    obtain ⟨e7, k7, s7⟩ := rbox_set7 w2 _ _ _ _ _ _ _ _ _ _ _ _ _ _ _ _ HX.out wz hz7.symm
    obtain ⟨d0, d1, d2, d3, d4, d5, d6, _⟩ := box7_cells e7
    have hbz : Below w.heap.size w wz := by rw [← hz7]; exact ((((((HB.out.setCell (p := ⟨w.heap.size, 0, none⟩) (by show w.heap.size ≤ w.heap.size; omega) _).setCell (p := ⟨w.heap.size, 1, none⟩) (by show w.heap.size ≤ w.heap.size; omega) _).setCell (p := ⟨w.heap.size, 2, none⟩) (by show w.heap.size ≤ w.heap.size; omega) _).setCell (p := ⟨w.heap.size, 3, none⟩) (by show w.heap.size ≤ w.heap.size; omega) _).setCell (p := ⟨w.heap.size, 4, none⟩) (by show w.heap.size ≤ w.heap.size; omega) _).setCell (p := ⟨w.heap.size, 5, none⟩) (by show w.heap.size ≤ w.heap.size; omega) _).setCell (p := ⟨w.heap.size, 6, none⟩) (by show w.heap.size ≤ w.heap.size; omega) _
    refine bodyPost_ret (v := .agg #[.int .i64 0, .string ⟨#[]⟩, .string ⟨#[]⟩, .slice none 0 0, .slice none 0 0, .int .i64 (q : Int), .int .i64 (er : Int)]) (by simp [results, Tryz.results27, go_sem, d0, d1, d2, d3, d4, d5, d6]) rfl ?_
    exact ⟨hbz, H0.out, rfl⟩
  | ok T q =>
    obtain ⟨x0, x1, x2, x3, x4, rfl, hF⟩ := hm
    obtain ⟨jo, jc, ko, kc, hv, hrest⟩ := id hF
    simp only [Value.agg.injEq, Array.mk.injEq, List.cons.injEq, and_true] at hv
    obtain ⟨rfl, rfl, rfl, rfl, rfl⟩ := hv
    clear hrest
    have HF := Hid.mk (And.intro hF hz2)
    clear hb2 hbx hbw hz2 hF
    unfold ans5
    go_wp2_with fail
    (try simp only [Exit.inBlock, Exit.then])
    generalize hz7 : (((((((w2.setCell ⟨w.heap.size, 0, none⟩ (.int .i64 T.kind)).setCell ⟨w.heap.size, 1, none⟩ (.string T.num)).setCell ⟨w.heap.size, 2, none⟩ (.string T.text)).setCell ⟨w.heap.size, 3, none⟩ (.slice jo T.items.length jc)).setCell ⟨w.heap.size, 4, none⟩ (.slice ko T.keys.length kc)).setCell ⟨w.heap.size, 5, none⟩ (.int .i64 (q : Int))).setCell ⟨w.heap.size, 6, none⟩ (.int .i64 0)) = wz
    obtain ⟨e7, k7, s7⟩ := rbox_set7 w2 _ _ _ _ _ _ _ _ _ _ _ _ _ _ _ _ HX.out wz hz7.symm
    obtain ⟨d0, d1, d2, d3, d4, d5, d6, _⟩ := box7_cells e7
    have hbz : Below w.heap.size w wz := by rw [← hz7]; exact ((((((HB.out.setCell (p := ⟨w.heap.size, 0, none⟩) (by show w.heap.size ≤ w.heap.size; omega) _).setCell (p := ⟨w.heap.size, 1, none⟩) (by show w.heap.size ≤ w.heap.size; omega) _).setCell (p := ⟨w.heap.size, 2, none⟩) (by show w.heap.size ≤ w.heap.size; omega) _).setCell (p := ⟨w.heap.size, 3, none⟩) (by show w.heap.size ≤ w.heap.size; omega) _).setCell (p := ⟨w.heap.size, 4, none⟩) (by show w.heap.size ≤ w.heap.size; omega) _).setCell (p := ⟨w.heap.size, 5, none⟩) (by show w.heap.size ≤ w.heap.size; omega) _).setCell (p := ⟨w.heap.size, 6, none⟩) (by show w.heap.size ≤ w.heap.size; omega) _
    refine bodyPost_ret (v := .agg #[.int .i64 T.kind, .string T.num, .string T.text, .slice jo T.items.length jc, .slice ko T.keys.length kc, .int .i64 (q : Int), .int .i64 0]) (by simp [results, Tryz.results27, go_sem, d0, d1, d2, d3, d4, d5, d6]) rfl ?_
    exact ⟨hbz, _, _, _, _, _, rfl, InF.keepB (by omega) (fun b hb _ => k7 b (by have h1 : (w1.alloc _).heap.size ≤ b := hb; rw [World.size_alloc] at h1; omega)) (by rw [World.size_alloc]; omega) HF.out.1⟩

set_option maxRecDepth 100000 in
set_option maxHeartbeats 3200000 in
theorem w_5Read_obj (s : ByteArray) (hs : s.size ≤ 1048576) (h d p : Nat) (hp : p ≤ s.size) (a z : Nat) (tx : List UInt8) (hd : d < 64) (r : Rd VT) (HA : ∀ u, Calls Tryz.prog 49 #[.string s, .int .i64 (z : Int), .int .i64 ((d : Int) + 1)] u fun e w' => An5 h u r e w') (w : World) (HN : Calls Tryz.prog 26 #[.string s, .int .i64 (p : Int)] (w.alloc (.cells #[.int .i64 0, .string ⟨#[]⟩, .string ⟨#[]⟩, .slice none 0 0, .slice none 0 0, .int .i64 0, .int .i64 0] 72)) fun e w' => Below (w.alloc (.cells #[.int .i64 0, .string ⟨#[]⟩, .string ⟨#[]⟩, .slice none 0 0, .slice none 0 0, .int .i64 0, .int .i64 0] 72)).heap.size (w.alloc (.cells #[.int .i64 0, .string ⟨#[]⟩, .string ⟨#[]⟩, .slice none 0 0, .slice none 0 0, .int .i64 0, .int .i64 0] 72)) w' ∧ e = .returned (pc5 123 a z tx 0)) :
    Calls Tryz.prog 27 #[.string s, .int .i64 (p : Int), .int .i64 (d : Int)] w fun e w' => An5 h w (r) e w' := by
  have HNN := Hid.mk HN
  clear HN
  have hd1 : ¬ (64 : Int) ≤ (d : Int) := by omega
  have hdb : decide ((64 : Int) ≤ (d : Int)) = false := decide_eq_false hd1
  have hwr : IntKind.i64.wrap ((d : Int) + 1) = (d : Int) + 1 := by rw [IntKind.wrap_i64]; omega
  have HAA := Hid.mk HA
  clear HA
  go_enter Tryz.func27, Tryz.ntmps27
  go_wp2_with fail
  refine HNN.out.mono ?_
  rintro e w1 ⟨hb1, rfl⟩
  obtain ⟨hsz, hbw, hbx⟩ := box_pc hb1
  rw [heap_alloc_new] at hbx
  have HX1 := Hid.mk hbx
  have HB1 := Hid.mk hbw
  clear hb1 hbx hbw
  unfold pc5
  go_wp2_with fail
  refine (HAA.out _).mono ?_
  rintro e w2 ⟨hb2, hm⟩
  have hz2 := hb2.size
  rw [World.size_alloc] at hz2
  have hbx : w2.heap[w.heap.size]? = some (.cells #[.int .i64 0, .string ⟨#[]⟩, .string ⟨#[]⟩, .slice none 0 0, .slice none 0 0, .int .i64 0, .int .i64 0] 72 (0, 0)) := (hb2.block _ (by simp; omega)).trans ((Below.heap_alloc _ _ _ hsz).trans HX1.out)
  have hbw : Below w.heap.size w w2 := (HB1.out.alloc HB1.out.size _).trans (hb2.mono (by simp; omega))
  obtain ⟨c0, c1, c2, c3, c4, c5, c6, f0, f1, f2, f3, f4, f5, f6⟩ := box7_cells hbx
  have HX := Hid.mk hbx
  have HB := Hid.mk hbw
  cases r with
  | bad er q =>
    obtain ⟨h0, rfl⟩ := hm
    have H0 := Hid.mk h0
    clear hb2 hbx hbw hz2 h0
    unfold bad5 ans5
    go_wp2_with fail
    (try simp only [Exit.inBlock, Exit.then])
    generalize hz7 : (((((((w2.setCell ⟨w.heap.size, 0, none⟩ (.int .i64 0)).setCell ⟨w.heap.size, 1, none⟩ (.string ⟨#[]⟩)).setCell ⟨w.heap.size, 2, none⟩ (.string ⟨#[]⟩)).setCell ⟨w.heap.size, 3, none⟩ (.slice none 0 0)).setCell ⟨w.heap.size, 4, none⟩ (.slice none 0 0)).setCell ⟨w.heap.size, 5, none⟩ (.int .i64 (q : Int))).setCell ⟨w.heap.size, 6, none⟩ (.int .i64 (er : Int))) = wz
    obtain ⟨e7, k7, s7⟩ := rbox_set7 w2 _ _ _ _ _ _ _ _ _ _ _ _ _ _ _ _ HX.out wz hz7.symm
    obtain ⟨d0, d1, d2, d3, d4, d5, d6, _⟩ := box7_cells e7
    have hbz : Below w.heap.size w wz := by rw [← hz7]; exact ((((((HB.out.setCell (p := ⟨w.heap.size, 0, none⟩) (by show w.heap.size ≤ w.heap.size; omega) _).setCell (p := ⟨w.heap.size, 1, none⟩) (by show w.heap.size ≤ w.heap.size; omega) _).setCell (p := ⟨w.heap.size, 2, none⟩) (by show w.heap.size ≤ w.heap.size; omega) _).setCell (p := ⟨w.heap.size, 3, none⟩) (by show w.heap.size ≤ w.heap.size; omega) _).setCell (p := ⟨w.heap.size, 4, none⟩) (by show w.heap.size ≤ w.heap.size; omega) _).setCell (p := ⟨w.heap.size, 5, none⟩) (by show w.heap.size ≤ w.heap.size; omega) _).setCell (p := ⟨w.heap.size, 6, none⟩) (by show w.heap.size ≤ w.heap.size; omega) _
    refine bodyPost_ret (v := .agg #[.int .i64 0, .string ⟨#[]⟩, .string ⟨#[]⟩, .slice none 0 0, .slice none 0 0, .int .i64 (q : Int), .int .i64 (er : Int)]) (by simp [results, Tryz.results27, go_sem, d0, d1, d2, d3, d4, d5, d6]) rfl ?_
    exact ⟨hbz, H0.out, rfl⟩
  | ok T q =>
    obtain ⟨x0, x1, x2, x3, x4, rfl, hF⟩ := hm
    obtain ⟨jo, jc, ko, kc, hv, hrest⟩ := id hF
    simp only [Value.agg.injEq, Array.mk.injEq, List.cons.injEq, and_true] at hv
    obtain ⟨rfl, rfl, rfl, rfl, rfl⟩ := hv
    clear hrest
    have HF := Hid.mk (And.intro hF hz2)
    clear hb2 hbx hbw hz2 hF
    unfold ans5
    go_wp2_with fail
    (try simp only [Exit.inBlock, Exit.then])
    generalize hz7 : (((((((w2.setCell ⟨w.heap.size, 0, none⟩ (.int .i64 T.kind)).setCell ⟨w.heap.size, 1, none⟩ (.string T.num)).setCell ⟨w.heap.size, 2, none⟩ (.string T.text)).setCell ⟨w.heap.size, 3, none⟩ (.slice jo T.items.length jc)).setCell ⟨w.heap.size, 4, none⟩ (.slice ko T.keys.length kc)).setCell ⟨w.heap.size, 5, none⟩ (.int .i64 (q : Int))).setCell ⟨w.heap.size, 6, none⟩ (.int .i64 0)) = wz
    obtain ⟨e7, k7, s7⟩ := rbox_set7 w2 _ _ _ _ _ _ _ _ _ _ _ _ _ _ _ _ HX.out wz hz7.symm
    obtain ⟨d0, d1, d2, d3, d4, d5, d6, _⟩ := box7_cells e7
    have hbz : Below w.heap.size w wz := by rw [← hz7]; exact ((((((HB.out.setCell (p := ⟨w.heap.size, 0, none⟩) (by show w.heap.size ≤ w.heap.size; omega) _).setCell (p := ⟨w.heap.size, 1, none⟩) (by show w.heap.size ≤ w.heap.size; omega) _).setCell (p := ⟨w.heap.size, 2, none⟩) (by show w.heap.size ≤ w.heap.size; omega) _).setCell (p := ⟨w.heap.size, 3, none⟩) (by show w.heap.size ≤ w.heap.size; omega) _).setCell (p := ⟨w.heap.size, 4, none⟩) (by show w.heap.size ≤ w.heap.size; omega) _).setCell (p := ⟨w.heap.size, 5, none⟩) (by show w.heap.size ≤ w.heap.size; omega) _).setCell (p := ⟨w.heap.size, 6, none⟩) (by show w.heap.size ≤ w.heap.size; omega) _
    refine bodyPost_ret (v := .agg #[.int .i64 T.kind, .string T.num, .string T.text, .slice jo T.items.length jc, .slice ko T.keys.length kc, .int .i64 (q : Int), .int .i64 0]) (by simp [results, Tryz.results27, go_sem, d0, d1, d2, d3, d4, d5, d6]) rfl ?_
    exact ⟨hbz, _, _, _, _, _, rfl, InF.keepB (by omega) (fun b hb _ => k7 b (by have h1 : (w1.alloc _).heap.size ≤ b := hb; rw [World.size_alloc] at h1; omega)) (by rw [World.size_alloc]; omega) HF.out.1⟩

end Go.Proofs.YtcbngdkekdhfeaaGreatDoor
namespace Go.Proofs.YtcbngdkekdhfeaaGreatDoor
open Go.RowKit Go.Shelf
set_option linter.unusedVariables false
set_option linter.unusedSimpArgs false
attribute [local go_sem] Oper.semAt_some

theorem mustL_kind {l : List UInt8} {p p1 : Nat} {t : Tok} (h : mustL l p = .ok t p1) : 1 ≤ t.kind ∧ t.kind ≤ 11 := by
  unfold mustL at h
  split at h
  · split at h
    · next h2 =>
      injection h with e1 e2
      subst e1
      exact nextT_kind h2
    · cases h
  · cases h
theorem w_5Read (s : ByteArray) (hs : s.size ≤ 1048576) (h d : Nat) (ra ro : Nat → Rd VT)
    (HA : d < 64 → ∀ (z : Nat) (u : World), z ≤ s.size → Calls Tryz.prog 48 #[.string s, .int .i64 (z : Int), .int .i64 ((d : Int) + 1)] u fun e w' => An5 h u (ra z) e w')
    (HO : d < 64 → ∀ (z : Nat) (u : World), z ≤ s.size → Calls Tryz.prog 49 #[.string s, .int .i64 (z : Int), .int .i64 ((d : Int) + 1)] u fun e w' => An5 h u (ro z) e w') :
    RdC s h d (fun t p => valAt (d + 1) (ra p) (ro p) t p) := by
  intro p w hp
  have hn := w_5Next s p (w.alloc (.cells #[.int .i64 0, .string ⟨#[]⟩, .string ⟨#[]⟩, .slice none 0 0, .slice none 0 0, .int .i64 0, .int .i64 0] 72)) hp hs
  have hl : s.data.toList.length = s.size := size_lst s
  unfold rdL
  cases hm : mustL s.data.toList p with
  | ok t p1 =>
    have hk := mustL_kind hm
    have hu := (mustL_up (l := s.data.toList) (by omega) hm).2
    have htx : t.text.length ≤ 140737488355328 := by have := mustL_text hm; omega
    have HN := hn.mono (R' := fun e w' => Below (w.alloc (.cells #[.int .i64 0, .string ⟨#[]⟩, .string ⟨#[]⟩, .slice none 0 0, .slice none 0 0, .int .i64 0, .int .i64 0] 72)).heap.size (w.alloc (.cells #[.int .i64 0, .string ⟨#[]⟩, .string ⟨#[]⟩, .slice none 0 0, .slice none 0 0, .int .i64 0, .int .i64 0] 72)) w' ∧ e = .returned (pc5 (sg5 t.kind) t.at_ p1 t.text 0)) (fun e w' hx => ⟨hx.1, by
      rcases nx5_must hx.2 with ⟨t2, p2, h1, _, _, he⟩ | ⟨sg, q, z, cd, er, h1, _⟩
      · rw [hm] at h1; injection h1 with e1 e2; subst e1 e2; exact he
      · rw [hm] at h1; cases h1⟩)
    obtain ⟨k, a, fi, tx, er⟩ := t
    dsimp only at hk htx HN ⊢
    obtain ⟨k1, k2⟩ := hk
    have hc : k = 1 ∨ k = 2 ∨ k = 3 ∨ k = 4 ∨ k = 5 ∨ k = 6 ∨ k = 7 ∨ k = 8 ∨ k = 9 ∨ k = 10 ∨ k = 11 := by omega
    unfold valAt
    rcases hc with rfl | rfl | rfl | rfl | rfl | rfl | rfl | rfl | rfl | rfl | rfl
    · rw [if_neg (by show ¬ 1 = 3; omega), if_pos rfl]
      by_cases hd : d < 64
      · rw [if_pos (by omega)]
        exact w_5Read_obj s hs h d p hp a p1 tx hd _ (fun u => HO hd p1 u (by omega)) w HN
      · rw [if_neg (by omega)]
        exact w_5Read_deep1 s hs h d p hp a p1 tx (by omega) w HN
    · exact w_5Read_k2 s hs h d p hp a p1 tx w HN
    · rw [if_pos rfl]
      by_cases hd : d < 64
      · rw [if_pos (by omega)]
        exact w_5Read_arr s hs h d p hp a p1 tx hd _ (fun u => HA hd p1 u (by omega)) w HN
      · rw [if_neg (by omega)]
        exact w_5Read_deep3 s hs h d p hp a p1 tx (by omega) w HN
    · exact w_5Read_k4 s hs h d p hp a p1 tx w HN
    · exact w_5Read_k5 s hs h d p hp a p1 tx w HN
    · exact w_5Read_k6 s hs h d p hp a p1 tx w HN
    · exact w_5Read_k7 s hs h d p hp a p1 tx htx w HN
    · exact w_5Read_k8 s hs h d p hp a p1 tx htx w HN
    · exact w_5Read_k9 s hs h d p hp a p1 tx htx w HN
    · exact w_5Read_k10 s hs h d p hp a p1 tx htx w HN
    · exact w_5Read_k11 s hs h d p hp a p1 tx htx w HN
  | bad er q =>
    unfold mustL at hm
    split at hm
    · next h1 =>
      split at hm
      · cases hm
      · next h2 =>
        injection hm with e1 e2
        subst e1 e2
        refine w_5Read_bad s hs h d p hp _ (nextT s.data.toList (behL s.data.toList p cBl)).at_ [] _ h2 w (hn.mono fun e w' hx => ⟨hx.1, ?_⟩)
        rcases hx.2 with ⟨h3, _⟩ | ⟨_, ht⟩
        · exact absurd h1 h3
        · rcases ht with ⟨h4, _⟩ | ⟨_, sg, he⟩
          · exact absurd h4 h2
          · exact ⟨sg, he⟩
    · next h1 =>
      injection hm with e1 e2
      subst e1 e2
      refine w_5Read_end s hs h d p hp _ s.data.toList.length [] w (hn.mono fun e w' hx => ⟨hx.1, ?_⟩)
      rcases hx.2 with ⟨_, he⟩ | ⟨h3, _⟩
      · exact he
      · exact absurd h3 h1
end Go.Proofs.YtcbngdkekdhfeaaGreatDoor
namespace Go.Proofs.YtcbngdkekdhfeaaGreatDoor
open Go.RowKit Go.Shelf
set_option linter.unusedVariables false
set_option linter.unusedSimpArgs false
attribute [local go_sem] Oper.semAt_some

theorem ArC.keep2 {O lo H k cap : Nat} {io : Option Addr} {c : Nat → Fin 5 → Value} {xs : List VT} {w w' : World} (h : ArC O lo H k io cap c xs w) (hz : w.heap.size ≤ w'.heap.size) (hO : w'.heap[O]? = w.heap[O]?) (hs : ∀ b, lo ≤ b → b < w.heap.size → w'.heap[b]? = w.heap[b]?) : ArC O lo H k io cap c xs w' := by
  have h2 := h.ll
  exact ⟨h.len, h.ol, by omega, hO.trans h.box, own_keepR h.own (fun b hb hl => hs b (own_low h.own hb).1 hl), fun i hi => InD.keep hz (fun b hb hl => hs b hb.1 hl) (fun b hb _ => hb) (h.trees i hi)⟩
theorem ArC.app {O lo H k cap g cap' : Nat} {io : Option Addr} {c : Nat → Fin 5 → Value} {xs : List VT} {W w4 : World} {o : Obj} {T : VT} {x0 x1 x2 x3 x4 : Value} (h : ArC O lo H k io cap c xs W) (hT : InD (rowD lo (.slice io k cap)) W (H + 1) T (.agg #[x0, x1, x2, x3, x4]))
    (hown : w4.ownsRow lo 27 5 (.slice (some ⟨g, 0, none⟩) (k + 1) cap') (k + 1) (flat c k ++ [x0, x1, x2, x3, x4])) (hg : (W.alloc o).grownBy w4 (Value.slice io k cap).ownBlock) (hat : (Value.slice (some ⟨g, 0, none⟩) (k + 1) cap').ownBlock = (Value.slice io k cap).ownBlock ∨ (Value.slice (some ⟨g, 0, none⟩) (k + 1) cap').ownBlock = some (W.alloc o).heap.size) :
    ArC O lo H (k + 1) (some ⟨g, 0, none⟩) cap' (cUp k c x0 x1 x2 x3 x4) (xs ++ [T]) (w4.setCell ⟨O, 3, none⟩ (.slice (some ⟨g, 0, none⟩) (k + 1) cap')) ∧ (∀ b, b < W.heap.size → b ≠ O → (Value.slice io k cap).ownBlock ≠ some b → w4.heap[b]? = W.heap[b]?) ∧ w4.heap[O]? = some (.cells #[.int .i64 5, .string ⟨#[]⟩, .string ⟨#[]⟩, .slice io k cap, .slice none 0 0] 27 (0, 0)) := by
  have hlen := h.len
  have hol := h.ol
  have hll := h.ll
  have hsz := hg.size
  rw [World.size_alloc] at hsz
  have hat' : (Value.slice io k cap).ownBlock = some g ∨ g = W.heap.size + 1 := by
    rw [World.size_alloc] at hat
    rcases hat with e | e
    · exact .inl e.symm
    · exact .inr (by simpa [Value.ownBlock] using e)
  have old : ∀ b, b < W.heap.size → (Value.slice io k cap).ownBlock ≠ some b → w4.heap[b]? = W.heap[b]? := fun b hb hne => (hg.block b (by simp; omega) (fun e => hne e.symm)).trans (Below.heap_alloc _ _ b hb)
  have nO : (Value.slice io k cap).ownBlock ≠ some O := fun e => by have := (own_low h.own e).1; omega
  have hO4 := (old O (by omega) nO).trans h.box
  have glo : lo ≤ g := by
    rcases hat' with e | e
    · exact (own_low h.own e).1
    · omega
  have oth : ∀ b, b ≠ O → (w4.setCell ⟨O, 3, none⟩ (.slice (some ⟨g, 0, none⟩) (k + 1) cap')).heap[b]? = w4.heap[b]? := fun b hb => Below.heap_setCell _ _ _ _ hb
  have kk : ∀ b, rowD lo (.slice io k cap) b → b < W.heap.size → (w4.setCell ⟨O, 3, none⟩ (.slice (some ⟨g, 0, none⟩) (k + 1) cap')).heap[b]? = W.heap[b]? := fun b hb hl => (oth b (by have := hb.1; omega)).trans (old b hl hb.2)
  have dd : ∀ b, rowD lo (.slice io k cap) b → b < W.heap.size → rowD lo (.slice (some ⟨g, 0, none⟩) (k + 1) cap') b := fun b hb hl => ⟨hb.1, fun e => by
    simp [Value.ownBlock] at e
    subst e
    rcases hat' with h1 | h1
    · exact hb.2 h1
    · omega⟩
  refine ⟨⟨by rw [List.length_append, hlen]; rfl, hol, by simp; omega, rset (i := 3) (c := #[.int .i64 5, .string ⟨#[]⟩, .string ⟨#[]⟩, .slice io k cap, .slice none 0 0]) _ hO4, ?_, fun i hi => ?_⟩, fun b h1 h2 h3 => old b h1 h3, hO4⟩
  · rw [flat_cUp]
    exact own_keepR hown fun b e _ => oth b (by simp [Value.ownBlock] at e; omega)
  · rw [List.length_append] at hi
    have hi' : i < xs.length + 1 := hi
    by_cases hik : i < xs.length
    · rw [List.getElem_append_left hik]
      have e : cUp k c x0 x1 x2 x3 x4 i = c i := by unfold cUp; rw [if_neg (by omega)]
      rw [e]
      exact InD.keep (by simp; omega) kk dd (h.trees i hik)
    · have e : i = xs.length := by omega
      subst e
      rw [List.getElem_append_right (Nat.le_refl _)]
      have e0 : cUp k c x0 x1 x2 x3 x4 xs.length 0 = x0 := by unfold cUp; rw [if_pos hlen]
      have e1 : cUp k c x0 x1 x2 x3 x4 xs.length 1 = x1 := by unfold cUp; rw [if_pos hlen]
      have e2 : cUp k c x0 x1 x2 x3 x4 xs.length 2 = x2 := by unfold cUp; rw [if_pos hlen]
      have e3 : cUp k c x0 x1 x2 x3 x4 xs.length 3 = x3 := by unfold cUp; rw [if_pos hlen]
      have e4 : cUp k c x0 x1 x2 x3 x4 xs.length 4 = x4 := by unfold cUp; rw [if_pos hlen]
      rw [e0, e1, e2, e3, e4]
      simp only [Nat.sub_self, List.getElem_cons_zero]
      exact InD.keep (by simp; omega) kk dd hT
structure RAs (lo Pb H : Nat) (xs : List VT) (w u : World) : Prop where
  arr : ∃ k io cap c, ArC (w.heap.size + 1) lo H k io cap c xs u
  res : u.heap[w.heap.size]? = some (.cells #[.int .i64 0, .string ⟨#[]⟩, .string ⟨#[]⟩, .slice none 0 0, .slice none 0 0, .int .i64 0, .int .i64 0] 72 (0, 0))
  pb : ∃ y0 y1 y2 y3 y4, u.heap[Pb]? = some (.cells #[y0, y1, y2, y3, y4] 69 (0, 0))
  bel : Below w.heap.size w u
  pl : w.heap.size + 1 < Pb
  pl2 : Pb < lo
theorem RAs.low {lo Pb H : Nat} {xs : List VT} {w u u' : World} (h : RAs lo Pb H xs w u) (hb : Below u.heap.size u u') : RAs lo Pb H xs w u' := by
  obtain ⟨k, io, cap, c, hA⟩ := h.arr
  obtain ⟨y0, y1, y2, y3, y4, hp⟩ := h.pb
  have h1 := h.pl
  have h2 := h.pl2
  have h3 := hA.ll
  exact ⟨⟨k, io, cap, c, hA.low hb⟩, (hb.block _ (by omega)).trans h.res, ⟨y0, y1, y2, y3, y4, (hb.block _ (by omega)).trans hp⟩, h.bel.trans (hb.mono h.bel.size), h1, h2⟩
theorem RAs.pset {lo Pb H : Nat} {xs : List VT} {w u : World} (h : RAs lo Pb H xs w u) (a0 a1 a2 a3 a4 : Value) (W : World) (hW : W = (((((u.setCell ⟨Pb, 0, none⟩ (a0)).setCell ⟨Pb, 1, none⟩ (a1)).setCell ⟨Pb, 2, none⟩ (a2)).setCell ⟨Pb, 3, none⟩ (a3)).setCell ⟨Pb, 4, none⟩ (a4))) : RAs lo Pb H xs w W ∧ W.heap[Pb]? = some (.cells #[a0, a1, a2, a3, a4] 69 (0, 0)) := by
  obtain ⟨k, io, cap, c, hA⟩ := h.arr
  obtain ⟨y0, y1, y2, y3, y4, hp⟩ := h.pb
  have h1 := h.pl
  have h2 := h.pl2
  obtain ⟨e5, k5, s5⟩ := rbox_set5 u _ _ _ _ _ _ _ _ _ _ _ _ hp W hW
  refine ⟨⟨⟨k, io, cap, c, hA.keep2 (by omega) (k5 _ (by omega)) (fun b hb _ => k5 b (by omega))⟩, (k5 _ (by omega)).trans h.res, ⟨_, _, _, _, _, e5⟩, ?_, h1, h2⟩, e5⟩
  rw [hW]
  exact ((((h.bel.setCell (p := ⟨Pb, 0, none⟩) (by show w.heap.size ≤ Pb; omega) _).setCell (p := ⟨Pb, 1, none⟩) (by show w.heap.size ≤ Pb; omega) _).setCell (p := ⟨Pb, 2, none⟩) (by show w.heap.size ≤ Pb; omega) _).setCell (p := ⟨Pb, 3, none⟩) (by show w.heap.size ≤ Pb; omega) _).setCell (p := ⟨Pb, 4, none⟩) (by show w.heap.size ≤ Pb; omega) _
theorem RAs.app {lo Pb H k cap k' cap' : Nat} {io io' : Option Addr} {c c' : Nat → Fin 5 → Value} {xs ys : List VT} {w W w4 : World} {o : Obj} {v' : Value} (h : RAs lo Pb H xs w W) (hA : ArC (w.heap.size + 1) lo H k io cap c xs W) (hg : (W.alloc o).grownBy w4 (Value.slice io k cap).ownBlock) (hA5 : ArC (w.heap.size + 1) lo H k' io' cap' c' ys (w4.setCell ⟨w.heap.size + 1, 3, none⟩ v')) (hk : ∀ b, b < W.heap.size → b ≠ w.heap.size + 1 → (Value.slice io k cap).ownBlock ≠ some b → w4.heap[b]? = W.heap[b]?) : RAs lo Pb H ys w (w4.setCell ⟨w.heap.size + 1, 3, none⟩ v') := by
  obtain ⟨y0, y1, y2, y3, y4, hp⟩ := h.pb
  have h1 := h.pl
  have h2 := h.pl2
  have h3 := hA.ll
  have h4 := hg.size
  rw [World.size_alloc] at h4
  have hbs := h.bel.size
  have nb : ∀ b, b < lo → (Value.slice io k cap).ownBlock ≠ some b := fun b hb e => by have := (own_low hA.own e).1; omega
  have kk : ∀ b, b < lo → b ≠ w.heap.size + 1 → (w4.setCell ⟨w.heap.size + 1, 3, none⟩ v').heap[b]? = W.heap[b]? := fun b hb hn => (Below.heap_setCell _ _ _ _ hn).trans (hk b (by omega) hn (nb b hb))
  exact ⟨⟨k', io', cap', c', hA5⟩, (kk _ (by omega) (by omega)).trans h.res, ⟨y0, y1, y2, y3, y4, (kk _ (by omega) (by omega)).trans hp⟩, ⟨hg.os.trans h.bel.os, hg.tape.trans h.bel.tape, hg.output.trans h.bel.output, by simp; omega, fun b hb => (kk b (by omega) (by omega)).trans (h.bel.block b hb)⟩, h1, h2⟩
def RgL (l : List UInt8) (vl : Tok → Nat → Rd VT) (f : Nat) (xs : List VT) (q : Nat) : Rd (List VT) := match rdL l vl q with
  | .bad e q' => .bad e q'
  | .ok v q' => loopL l 4 (aPt vl) f (xs ++ [v]) q'
theorem RgL_up {l : List UInt8} {vl : Tok → Nat → Rd VT} {f : Nat} {xs : List VT} {q p1 : Nat} {t : Tok} (hm : mustL l q = .ok t p1) (h4 : t.kind ≠ 4) (h6 : t.kind = 6) : loopL l 4 (aPt vl) (f + 1) xs q = RgL l vl f xs p1 := by
  unfold RgL rdL
  rw [loopL, hm]
  dsimp only
  rw [if_neg h4, if_pos h6]
  cases hm2 : mustL l p1 with
  | bad e q' => rfl
  | ok t2 p2 =>
    dsimp only
    unfold aPt
    cases hv : vl t2 p2 with
    | bad e q' => rfl
    | ok v p3 => rfl
theorem RgL_row {l : List UInt8} {vl : Tok → Nat → Rd VT} {p : Nat} (h : ∀ t p1, mustL l p = .ok t p1 → t.kind ≠ 4) : rowL l 4 (aPt vl) [] p = RgL l vl (l.length + 1) [] p := by
  unfold RgL rdL rowL
  cases hm : mustL l p with
  | bad e q' => rfl
  | ok t p1 =>
    dsimp only
    rw [if_neg (h t p1 hm)]
    unfold aPt
    cases hv : vl t p1 with
    | bad e q' => rfl
    | ok v p3 => rfl
end Go.Proofs.YtcbngdkekdhfeaaGreatDoor
namespace Go.Proofs.YtcbngdkekdhfeaaGreatDoor
open Go.RowKit Go.Shelf
set_option linter.unusedVariables false
set_option linter.unusedSimpArgs false
attribute [local go_sem] Oper.semAt_some

theorem rdL_up {s : ByteArray} {vl : Tok → Nat → Rd VT} (hv : ValUp s vl) {p q : Nat} {T : VT} (hp : p ≤ s.size) (h : rdL s.data.toList vl p = .ok T q) : p < q ∧ q ≤ s.size := by
  unfold rdL at h
  split at h
  · cases h
  · next t p1 hm =>
    obtain ⟨a1, a2⟩ := mustL_up (l := s.data.toList) hp hm
    obtain ⟨b1, b2⟩ := hv _ _ _ _ a2 h
    omega

set_option maxRecDepth 100000 in
set_option maxHeartbeats 6400000 in
theorem w_5readArray (s : ByteArray) (hs : s.size ≤ 1048576) (h d p : Nat) (hp : p ≤ s.size) (vl : Tok → Nat → Rd VT) (HR : RdC s h d vl) (HU : ValUp s vl) (w : World) :
    Calls Tryz.prog 48 #[.string s, .int .i64 (p : Int), .int .i64 (d : Int)] w fun e w' => An5 (h + 1) w (arrL s.data.toList vl p) e w' := by
  obtain ⟨i0, hi0, hz0, hz1, hz2⟩ := info_parts Tryz.infoVr
  have hl : s.data.toList.length = s.size := size_lst s
  have HRd := Hid.mk HR
  have HUp := Hid.mk HU
  have HN := Hid.mk (fun (u : World) (q : Nat) (hq : q ≤ s.size) => w_5Next s q u hq hs)
  have HWr := Hid.mk (fun (sg a z : Nat) (tx : List UInt8) (cd : Nat) (u : World) => w_5wrong sg a z tx cd u)
  obtain ⟨R, hR⟩ : ∃ R, arrL s.data.toList vl p = R := ⟨_, rfl⟩
  rw [hR]
  have HRR0 := Hid.mk hR
  clear hR HR HU
  go_enter Tryz.func48, Tryz.ntmps48
  go_wp2_with fail
  refine (HN.out _ p hp).mono ?_
  rintro e w1 ⟨hb1, hnx⟩
  obtain ⟨W0, hW0⟩ : ∃ W0, (w.alloc (.cells #[.int .i64 0, .string ⟨#[]⟩, .string ⟨#[]⟩, .slice none 0 0, .slice none 0 0, .int .i64 0, .int .i64 0] 72)).alloc (.cells #[.int .i64 5, .string ⟨#[]⟩, .string ⟨#[]⟩, .slice none 0 0, .slice none 0 0] 27) = W0 := ⟨_, rfl⟩
  rw [hW0] at hb1
  have hs0 : W0.heap.size = w.heap.size + 1 + 1 := by rw [← hW0]; simp
  have hr0 : W0.heap[w.heap.size]? = some (.cells #[.int .i64 0, .string ⟨#[]⟩, .string ⟨#[]⟩, .slice none 0 0, .slice none 0 0, .int .i64 0, .int .i64 0] 72 (0, 0)) := by rw [← hW0, Below.heap_alloc _ _ _ (by simp), heap_alloc_new]
  have ho0 : W0.heap[w.heap.size + 1]? = some (.cells #[.int .i64 5, .string ⟨#[]⟩, .string ⟨#[]⟩, .slice none 0 0, .slice none 0 0] 27 (0, 0)) := by
    have := heap_alloc_new (w.alloc (.cells #[.int .i64 0, .string ⟨#[]⟩, .string ⟨#[]⟩, .slice none 0 0, .slice none 0 0, .int .i64 0, .int .i64 0] 72)) (.cells #[.int .i64 5, .string ⟨#[]⟩, .string ⟨#[]⟩, .slice none 0 0, .slice none 0 0] 27)
    rw [World.size_alloc, hW0] at this
    exact this
  have hbw0 : Below w.heap.size w W0 := by rw [← hW0]; exact (below1 w _).alloc (by simp) _
  have hz1' := hb1.size
  have hsz1 : w.heap.size + 1 < w1.heap.size := by omega
  have hsz0 : w.heap.size < w1.heap.size := by omega
  have HS0 : Hid (∀ (y0 y1 y2 y3 y4 : Value), RAs (w1.heap.size + 1) w1.heap.size h [] w (w1.alloc (.cells #[y0, y1, y2, y3, y4] 69))) := fun y0 y1 y2 y3 y4 => by
    have b2 := below1 w1 (.cells #[y0, y1, y2, y3, y4] 69)
    exact ⟨⟨0, none, 0, fun _ _ => undef, rfl, by omega, by simp, (b2.block _ (by omega)).trans ((hb1.block _ (by omega)).trans ho0), World.ownsRow_nil _ _ _ _, fun i hi => absurd hi (Nat.not_lt_zero i)⟩, (b2.block _ (by omega)).trans ((hb1.block _ (by omega)).trans hr0), ⟨y0, y1, y2, y3, y4, heap_alloc_new w1 _⟩, (hbw0.trans (hb1.mono (by omega))).trans (b2.mono (by omega)), by omega, by omega⟩
  have hv1 := (hb1.block _ (by omega)).trans ho0
  have hr1 := (hb1.block _ (by omega)).trans hr0
  obtain ⟨v0, v1, v2, v3, v4, _, _, _, _, _⟩ := vbox_cells hv1
  obtain ⟨c0, c1, c2, c3, c4, c5, c6, f0, f1, f2, f3, f4, f5, f6⟩ := box7_cells hr1
  have HX := Hid.mk hr1
  have HB : Hid (Below w.heap.size w w1) := hbw0.trans (hb1.mono (by omega))
  clear hb1 hW0 hs0 hr0 ho0 hbw0 hz1' hv1 hr1
  obtain ⟨sg, a, z, tx, cd, rfl, hfirst⟩ : ∃ sg a z tx cd, e = .returned (pc5 sg a z tx cd) ∧ ((cd = 0 ∧ sg = 93 ∧ ∃ t, mustL s.data.toList p = .ok t z ∧ t.kind = 4) ∨ ((¬ cd = 0 ∨ ¬ sg = 93) ∧ ∀ t p1, mustL s.data.toList p = .ok t p1 → t.kind ≠ 4)) := by
    rcases nx5_must hnx with ⟨t, p1, h1, k1, k2, he⟩ | ⟨sg, q, z, cd, er, h1, h2, he, hc⟩
    · refine ⟨_, _, _, _, _, he, ?_⟩
      by_cases hk : t.kind = 4
      · exact .inl ⟨rfl, by rw [hk]; rfl, t, h1, hk⟩
      · refine .inr ⟨.inr (fun e => hk ?_), fun t2 p2 h3 => by rw [h1] at h3; injection h3 with e1 e2; subst e1; exact hk⟩
        have hc : t.kind = 1 ∨ t.kind = 2 ∨ t.kind = 3 ∨ t.kind = 4 ∨ t.kind = 5 ∨ t.kind = 6 ∨ t.kind = 7 ∨ t.kind = 8 ∨ t.kind = 9 ∨ t.kind = 10 ∨ t.kind = 11 := by omega
        rcases hc with hc | hc | hc | hc | hc | hc | hc | hc | hc | hc | hc <;> rw [hc] at e ⊢ <;> first | rfl | (exact absurd e (by decide))
    · refine ⟨_, _, _, _, _, he, .inr ⟨?_, fun t2 p2 h3 => by rw [h1] at h3; cases h3⟩⟩
      rcases hc with ⟨h3, _⟩ | ⟨h3, h4, _⟩
      · exact .inl h3
      · exact .inr (by omega)
  clear hnx
  unfold pc5
  rcases hfirst with ⟨rfl, rfl, t, hm, hk⟩ | ⟨hne, hnot⟩
  · have HRR : Hid (Rd.ok (VT.mk 5 .empty .empty [] []) z = R) := by
      show _ = _
      rw [← HRR0.out]
      unfold arrL rowL
      rw [hm]
      dsimp only
      rw [if_pos hk]
    clear hm hk HRR0 HS0
    go_wp2_with fail
    (try simp only [Exit.inBlock, Exit.then])
    generalize hz7 : (((((((w1.setCell ⟨w.heap.size, 0, none⟩ (.int .i64 5)).setCell ⟨w.heap.size, 1, none⟩ (.string ⟨#[]⟩)).setCell ⟨w.heap.size, 2, none⟩ (.string ⟨#[]⟩)).setCell ⟨w.heap.size, 3, none⟩ (.slice none 0 0)).setCell ⟨w.heap.size, 4, none⟩ (.slice none 0 0)).setCell ⟨w.heap.size, 5, none⟩ (.int .i64 (z : Int))).setCell ⟨w.heap.size, 6, none⟩ (.int .i64 0)) = wz
    obtain ⟨e7, k7, s7⟩ := rbox_set7 w1 _ _ _ _ _ _ _ _ _ _ _ _ _ _ _ _ HX.out wz hz7.symm
    have e8 := (Below.heap_alloc wz (.cells #[.int .u8 93, .int .i64 (a : Int), .int .i64 (z : Int), .string ⟨tx.toArray⟩, .int .i64 0] 69) w.heap.size (by omega)).trans e7
    obtain ⟨d0, d1, d2, d3, d4, d5, d6, _⟩ := box7_cells e8
    have hbz : Below w.heap.size w wz := by rw [← hz7]; exact ((((((HB.out.setCell (p := ⟨w.heap.size, 0, none⟩) (Nat.le_refl _) _).setCell (p := ⟨w.heap.size, 1, none⟩) (Nat.le_refl _) _).setCell (p := ⟨w.heap.size, 2, none⟩) (Nat.le_refl _) _).setCell (p := ⟨w.heap.size, 3, none⟩) (Nat.le_refl _) _).setCell (p := ⟨w.heap.size, 4, none⟩) (Nat.le_refl _) _).setCell (p := ⟨w.heap.size, 5, none⟩) (Nat.le_refl _) _).setCell (p := ⟨w.heap.size, 6, none⟩) (Nat.le_refl _) _
    refine bodyPost_ret (v := .agg #[.int .i64 5, .string ⟨#[]⟩, .string ⟨#[]⟩, .slice none 0 0, .slice none 0 0, .int .i64 (z : Int), .int .i64 0]) (by simp [results, Tryz.results48, go_sem, d0, d1, d2, d3, d4, d5, d6]) rfl ?_
    rw [← HRR.out]
    exact ⟨hbz.alloc hbz.size _, _, _, _, _, _, rfl, inF_leaf _ _ _ 5 .empty .empty (by decide) (by decide)⟩
  · have HRG : Hid ((match RgL s.data.toList vl (s.size + 1) [] p with | .ok xs q => Rd.ok (VT.mk 5 .empty .empty xs []) q | .bad e q => .bad e q) = R) := by
      show _ = _
      rw [← HRR0.out]
      unfold arrL
      rw [RgL_row hnot, hl]
      cases RgL s.data.toList vl (s.size + 1) [] p <;> rfl
    have hfb : ((((cd : Nat) : Int) == 0) && (((sg : Nat) : Int) == 93)) = false := by
      rcases hne with h1 | h1
      · have : (((cd : Nat) : Int) == 0) = false := by rw [beq_eq_false_iff_ne]; omega
        rw [this]; rfl
      · have : (((sg : Nat) : Int) == 93) = false := by rw [beq_eq_false_iff_ne]; omega
        rw [this, Bool.and_false]
    have HS1 := Hid.mk (HS0.out (.int .u8 (sg : Int)) (.int .i64 (a : Int)) (.int .i64 (z : Int)) (.string ⟨tx.toArray⟩) (.int .i64 (cd : Int)))
    clear hnot HRR0 HS0 HX HB c0 c1 c2 c3 c4 c5 c6 f0 f1 f2 f3 f4 f5 f6
    have hcase : (¬ cd = 0) ∨ (cd = 0 ∧ ¬ sg = 93) := by rcases hne with h1 | h1 <;> omega
    clear hne hfb
    rcases hcase with hc0 | ⟨rfl, hs93⟩
    · have hcb : (((cd : Nat) : Int) == 0) = false := by rw [beq_eq_false_iff_ne]; omega
      have hcn : ¬ ((cd : Nat) : Int) = 0 := by omega
      go_wp2_with fail
      clear hc0 hcb hcn
      go_loopw [1] (fun q' wr => ∃ (f : Nat) (xs : List VT) (q : Nat), q ≤ s.size ∧ q' = .int .i64 (q : Int) ∧ Hid (s.size < q + f) ∧ Hid (RAs (w1.heap.size + 1) w1.heap.size h xs w wr) ∧ Hid ((match RgL s.data.toList vl f xs q with | .ok xs q => Rd.ok (VT.mk 5 .empty .empty xs []) q | .bad e q => .bad e q) = R) ∧ Hid (xs.length ≤ q)) (fun a _ => s.size + 1 - (intOf a).toNat)
      case atStart => exact ⟨s.size + 1, [], p, hp, rfl, (by show s.size < p + (s.size + 1); omega), HS1, HRG, Nat.zero_le _⟩
      case round =>
        clear HS1 HRG
        obtain ⟨f, xs, q, hq, rfl, HF, HS, HG, HFit⟩ := hrel
        obtain ⟨f, rfl⟩ : ∃ f', f = f' + 1 := ⟨f - 1, by have := HF.out; omega⟩
        have hle : (q : Int) ≤ (s.size : Int) := by omega
        go_wp2_with fail
        refine (HRd.out q _ hq).mono ?_
        rintro e w2 ⟨hb2, hm⟩
        have HP2 := Hid.mk (HS.out.low hb2)
        obtain ⟨c0, c1, c2, c3, c4, c5, c6, f0, f1, f2, f3, f4, f5, f6⟩ := box7_cells HP2.out.res
        have hw2 : w.heap.size < w2.heap.size := (Array.getElem?_eq_some_iff.1 HP2.out.res).1
        have hG := HG.out
        unfold RgL at hG
        cases hr : rdL s.data.toList vl q with
        | bad er q2 =>
          rw [hr] at hm hG
          obtain ⟨h0, rfl⟩ := hm
          have HRR : Hid (Rd.bad er q2 = R) := hG
          have H0 := Hid.mk h0
          have hcb : (((er : Nat) : Int) == 0) = false := by rw [beq_eq_false_iff_ne]; omega
          have hcn : ¬ ((er : Nat) : Int) = 0 := by omega
          clear hr hG h0 hb2 HG HS
          unfold bad5 ans5
          go_wp2_with fail
          (try simp only [Exit.inBlock, Exit.then])
          have HX := Hid.mk HP2.out.res
          have HB := Hid.mk HP2.out.bel
          generalize hz7 : (((((((w2.setCell ⟨w.heap.size, 0, none⟩ (.int .i64 0)).setCell ⟨w.heap.size, 1, none⟩ (.string ⟨#[]⟩)).setCell ⟨w.heap.size, 2, none⟩ (.string ⟨#[]⟩)).setCell ⟨w.heap.size, 3, none⟩ (.slice none 0 0)).setCell ⟨w.heap.size, 4, none⟩ (.slice none 0 0)).setCell ⟨w.heap.size, 5, none⟩ (.int .i64 (q2 : Int))).setCell ⟨w.heap.size, 6, none⟩ (.int .i64 (er : Int))) = wz
          obtain ⟨e7, k7, s7⟩ := rbox_set7 w2 _ _ _ _ _ _ _ _ _ _ _ _ _ _ _ _ HX.out wz hz7.symm
          have e8 := (Below.heap_alloc wz (.cells #[.int .i64 0, .string ⟨#[]⟩, .string ⟨#[]⟩, .slice none 0 0, .slice none 0 0, .int .i64 (q2 : Int), .int .i64 (er : Int)] 72) w.heap.size (by omega)).trans e7
          obtain ⟨d0, d1, d2, d3, d4, d5, d6, _⟩ := box7_cells e8
          have hbz : Below w.heap.size w wz := by rw [← hz7]; exact ((((((HB.out.setCell (p := ⟨w.heap.size, 0, none⟩) (Nat.le_refl _) _).setCell (p := ⟨w.heap.size, 1, none⟩) (Nat.le_refl _) _).setCell (p := ⟨w.heap.size, 2, none⟩) (Nat.le_refl _) _).setCell (p := ⟨w.heap.size, 3, none⟩) (Nat.le_refl _) _).setCell (p := ⟨w.heap.size, 4, none⟩) (Nat.le_refl _) _).setCell (p := ⟨w.heap.size, 5, none⟩) (Nat.le_refl _) _).setCell (p := ⟨w.heap.size, 6, none⟩) (Nat.le_refl _) _
          refine bodyPost_ret (v := .agg #[.int .i64 0, .string ⟨#[]⟩, .string ⟨#[]⟩, .slice none 0 0, .slice none 0 0, .int .i64 (q2 : Int), .int .i64 (er : Int)]) (by simp [results, Tryz.results48, go_sem, d0, d1, d2, d3, d4, d5, d6]) rfl ?_
          rw [← HRR.out]
          exact ⟨hbz.alloc hbz.size _, H0.out, rfl⟩
        | ok T q2 =>
          rw [hr] at hm hG
          dsimp only at hG
          obtain ⟨u1, u2⟩ := rdL_up HUp.out hq hr
          obtain ⟨x0, x1, x2, x3, x4, rfl, hF⟩ := hm
          obtain ⟨jo, jc, ko, kc, hv, hrest⟩ := id hF
          simp only [Value.agg.injEq, Array.mk.injEq, List.cons.injEq, and_true] at hv
          obtain ⟨rfl, rfl, rfl, rfl, rfl⟩ := hv
          clear hrest
          obtain ⟨k, io, cap, c, hA0⟩ := HS.out.arr
          have hA2 := hA0.low hb2
          have hT : InD (rowD (w1.heap.size + 1) (.slice io k cap)) w2 (h + 1) T (.agg #[.int .i64 T.kind, .string T.num, .string T.text, .slice jo T.items.length jc, .slice ko T.keys.length kc]) := InD.keep (Nat.le_refl _) (fun b _ _ => rfl) (fun b hb _ => ⟨by have h1 : wr.heap.size ≤ b := hb; have h2 := hA0.ll; omega, fun e => by have h1 := (own_low hA0.own e).2; have h2 : wr.heap.size ≤ b := hb; omega⟩) (InD.iff.2 hF)
          have hA3 := hA2.low (below1 w2 (.cells #[.int .i64 T.kind, .string T.num, .string T.text, .slice jo T.items.length jc, .slice ko T.keys.length kc, .int .i64 (q2 : Int), .int .i64 0] 72))
          have hT3 := InD.keep (below1 w2 (.cells #[.int .i64 T.kind, .string T.num, .string T.text, .slice jo T.items.length jc, .slice ko T.keys.length kc, .int .i64 (q2 : Int), .int .i64 0] 72)).size (fun b _ hl => (below1 w2 (.cells #[.int .i64 T.kind, .string T.num, .string T.text, .slice jo T.items.length jc, .slice ko T.keys.length kc, .int .i64 (q2 : Int), .int .i64 0] 72)).block b hl) (fun b hb _ => hb) hT
          have HAT := Hid.mk (And.intro hA3 hT3)
          obtain ⟨b0, b1, b2, b3, b4, bf0, bf1, bf2, bf3, bf4⟩ := vbox_cells hA2.box
          have hown := hA2.own
          have hnw := heap_alloc_new (w2.alloc (.cells #[.int .i64 T.kind, .string T.num, .string T.text, .slice jo T.items.length jc, .slice ko T.keys.length kc, .int .i64 (q2 : Int), .int .i64 0] 72)) (.cells #[.int .i64 T.kind, .string T.num, .string T.text, .slice jo T.items.length jc, .slice ko T.keys.length kc] 27)
          rw [World.size_alloc] at hnw
          have hO2 : w.heap.size + 1 < w2.heap.size := by have h1 := HP2.out.pl; have h2 := HP2.out.pl2; have h3 := hA2.ll; omega
          have hlo2 : w1.heap.size + 1 ≤ w2.heap.size := hA2.ll
          have hkk : k ≤ 1048576 := by have h1 := hA2.len; have h2 := HFit.out; omega
          have HG2 := Hid.mk hG
          have HQ := Hid.mk (And.intro u1 u2)
          clear hr hG hF hA0 hT hA3 hT3 hb2 HG HS u1 hA2
          unfold ans5
          go_wp2_with (at_builtin; refine wpList_append_own_at _ (by rfl) _ _ 24 (by rfl) (w1.heap.size + 1) 27 i0 (.agg #[.int .i64 0, .string ⟨#[]⟩, .string ⟨#[]⟩, .slice none 0 0, .slice none 0 0]) 5 88 Tryz.underlying24 hi0 hz0 hz1 hz2 rfl (by decide) _ _ _ (by rfl) ((hown.alloc _).alloc _) ⟨w2.heap.size + 1, 0, none⟩ 1 1 [.int .i64 T.kind, .string T.num, .string T.text, .slice jo T.items.length jc, .slice ko T.keys.length kc] (by rfl) (by rfl) (World.news_of_block (cs := #[.int .i64 T.kind, .string T.num, .string T.text, .slice jo T.items.length jc, .slice ko T.keys.length kc]) (fr := (0, 0)) hnw) (by simp [Value.oneCell']) (by unfold maxLen; omega) (by omega) (by simp; omega) ?_)
          intro v' w4 hown4 hgrow4 hnil4 hat4
          obtain ⟨g, cap', hv'⟩ := own_succR hown4
          subst hv'
          obtain ⟨hA5, hk5, hO4⟩ := ArC.app HAT.out.1 HAT.out.2 hown4 hgrow4 (by rw [World.size_alloc, World.size_alloc]; exact hat4)
          have HP3 := Hid.mk (HP2.out.low (below1 w2 (.cells #[.int .i64 T.kind, .string T.num, .string T.text, .slice jo T.items.length jc, .slice ko T.keys.length kc, .int .i64 (q2 : Int), .int .i64 0] 72)))
          have hP5 := HP3.out.app HAT.out.1 hgrow4 hA5 hk5
          obtain ⟨o0, o1, o2, o3, o4, of0, of1, of2, of3, of4⟩ := vbox_cells hO4
          have hab : w4.heap[w2.heap.size]? = some (.cells #[.int .i64 T.kind, .string T.num, .string T.text, .slice jo T.items.length jc, .slice ko T.keys.length kc, .int .i64 (q2 : Int), .int .i64 0] 72 (0, 0)) := (hk5 _ (by simp) (by omega) (fun e => by have h1 := (own_low hown e).2; omega)).trans (heap_alloc_new w2 _)
          have q5 := (box7_cells hab).2.2.2.2.2.1
          obtain ⟨W5, hW5⟩ : ∃ W5, w4.setCell ⟨w.heap.size + 1, 3, none⟩ (.slice (some ⟨g, 0, none⟩) (k + 1) cap') = W5 := ⟨_, rfl⟩
          rw [hW5] at hP5
          have hab5 : W5.heap[w2.heap.size]? = some (.cells #[.int .i64 T.kind, .string T.num, .string T.text, .slice jo T.items.length jc, .slice ko T.keys.length kc, .int .i64 (q2 : Int), .int .i64 0] 72 (0, 0)) := by rw [← hW5, Below.heap_setCell _ _ _ _ (by show w2.heap.size ≠ w.heap.size + 1; omega)]; exact hab
          have q55 := (box7_cells hab5).2.2.2.2.2.1
          have HP5 := Hid.mk hP5
          clear hA5 hk5 hO4 hP5 hab hab5 hgrow4 hat4 hown4 hnil4 hown hnw c0 c1 c2 c3 c4 c5 c6 f0 f1 f2 f3 f4 f5 f6 b0 b1 b2 b3 b4 bf0 bf1 bf2 bf3 bf4
          go_wp2_with fail
          refine (HN.out _ q2 u2).mono ?_
          rintro e w6 ⟨hb6, hnx⟩
          have HP6 := Hid.mk (HP5.out.low hb6)
          clear hb6
          rcases nx5_must hnx with ⟨t, p1, h1, k1, k2, rfl⟩ | ⟨sg, q', z', cd, er, h1, h2, rfl, hc⟩
          · obtain ⟨kd, pa, fi, tx, er⟩ := t
            dsimp only at k1 k2 ⊢
            clear hnx
            by_cases h4 : kd = 4
            · subst h4
              have HRR : Hid (Rd.ok (VT.mk 5 .empty .empty (xs ++ [T]) []) p1 = R) := by
                show _ = _
                rw [← HG2.out, loopL, h1]
                dsimp only
                rw [if_pos rfl]
              clear h1 HG2 k1 k2
              rw [show sg5 4 = 93 from rfl]
              unfold pc5
              obtain ⟨y0, y1, y2, y3, y4, hpb⟩ := HP6.out.pb
              obtain ⟨p0, p1', p2', p3', p4', pf0, pf1, pf2, pf3, pf4⟩ := vbox_cells hpb
              obtain ⟨W7, hW7⟩ : ∃ W7, (((((w6.setCell ⟨w1.heap.size, 0, none⟩ (.int .u8 93)).setCell ⟨w1.heap.size, 1, none⟩ (.int .i64 (pa : Int))).setCell ⟨w1.heap.size, 2, none⟩ (.int .i64 (p1 : Int))).setCell ⟨w1.heap.size, 3, none⟩ (.string ⟨tx.toArray⟩)).setCell ⟨w1.heap.size, 4, none⟩ (.int .i64 0)) = W7 := ⟨_, rfl⟩
              obtain ⟨hP7, hpb7⟩ := HP6.out.pset _ _ _ _ _ W7 hW7.symm
              obtain ⟨r0, r1, r2, r3, r4, _, _, _, _, _⟩ := vbox_cells hpb7
              have HP7 := Hid.mk hP7
              have hl7 : w1.heap.size < W7.heap.size := (Array.getElem?_eq_some_iff.1 hpb7).1
              clear hpb hP7 hpb7
              obtain ⟨kA, ioA, capA, cA, hA7⟩ := HP7.out.arr
              obtain ⟨g0, g1, g2, g3, g4, _, _, _, _, _⟩ := vbox_cells hA7.box
              obtain ⟨c0, c1, c2, c3, c4, c5, c6, f0, f1, f2, f3, f4, f5, f6⟩ := box7_cells HP7.out.res
              have hlw : w.heap.size < W7.heap.size := (Array.getElem?_eq_some_iff.1 HP7.out.res).1
              have HA7 := Hid.mk hA7
              clear hA7
              go_wp2_with fail
              (try simp only [Exit.inBlock, Exit.then])
              have HX := Hid.mk HP7.out.res
              have HB := Hid.mk HP7.out.bel
              generalize hz7 : (((((((W7.setCell ⟨w.heap.size, 0, none⟩ (.int .i64 5)).setCell ⟨w.heap.size, 1, none⟩ (.string ⟨#[]⟩)).setCell ⟨w.heap.size, 2, none⟩ (.string ⟨#[]⟩)).setCell ⟨w.heap.size, 3, none⟩ (.slice ioA kA capA)).setCell ⟨w.heap.size, 4, none⟩ (.slice none 0 0)).setCell ⟨w.heap.size, 5, none⟩ (.int .i64 (p1 : Int))).setCell ⟨w.heap.size, 6, none⟩ (.int .i64 0)) = wz
              obtain ⟨e7, k7, s7⟩ := rbox_set7 W7 _ _ _ _ _ _ _ _ _ _ _ _ _ _ _ _ HX.out wz hz7.symm
              obtain ⟨d0, d1, d2, d3, d4, d5, d6, _⟩ := box7_cells e7
              have hbz : Below w.heap.size w wz := by rw [← hz7]; exact ((((((HB.out.setCell (p := ⟨w.heap.size, 0, none⟩) (by show w.heap.size ≤ w.heap.size; omega) _).setCell (p := ⟨w.heap.size, 1, none⟩) (by show w.heap.size ≤ w.heap.size; omega) _).setCell (p := ⟨w.heap.size, 2, none⟩) (by show w.heap.size ≤ w.heap.size; omega) _).setCell (p := ⟨w.heap.size, 3, none⟩) (by show w.heap.size ≤ w.heap.size; omega) _).setCell (p := ⟨w.heap.size, 4, none⟩) (by show w.heap.size ≤ w.heap.size; omega) _).setCell (p := ⟨w.heap.size, 5, none⟩) (by show w.heap.size ≤ w.heap.size; omega) _).setCell (p := ⟨w.heap.size, 6, none⟩) (by show w.heap.size ≤ w.heap.size; omega) _
              refine bodyPost_ret (v := .agg #[.int .i64 5, .string ⟨#[]⟩, .string ⟨#[]⟩, .slice ioA kA capA, .slice none 0 0, .int .i64 (p1 : Int), .int .i64 0]) (by simp [results, Tryz.results48, go_sem, d0, d1, d2, d3, d4, d5, d6]) rfl ?_
              exact ⟨hbz, by rw [← HRR.out]; exact ⟨_, _, _, _, _, rfl, arr_done (w := w) HA7.out (by have h1 := HA7.out.len; have h2 := HFit.out; rw [List.length_append] at h1; have h3 : xs.length + 1 = kA := h1; omega) (by omega) (by omega) (fun b hb hl => k7 b (by omega))⟩⟩
            · by_cases h6 : kd = 6
              · subst h6
                obtain ⟨v5, v6⟩ := mustL_up (l := s.data.toList) (by omega) h1
                have HG3 : Hid ((match RgL s.data.toList vl f (xs ++ [T]) p1 with | .ok xs q => Rd.ok (VT.mk 5 .empty .empty xs []) q | .bad e q => .bad e q) = R) := by
                  show _ = _
                  rw [← HG2.out, RgL_up h1 (by show ¬ 6 = 4; omega) rfl]
                have HM := Hid.mk (And.intro v5 v6)
                clear h1 HG2 k1 k2 h4 v5 v6
                rw [show sg5 6 = 44 from rfl]
                unfold pc5
                obtain ⟨y0, y1, y2, y3, y4, hpb⟩ := HP6.out.pb
                obtain ⟨p0, p1', p2', p3', p4', pf0, pf1, pf2, pf3, pf4⟩ := vbox_cells hpb
                obtain ⟨W7, hW7⟩ : ∃ W7, (((((w6.setCell ⟨w1.heap.size, 0, none⟩ (.int .u8 44)).setCell ⟨w1.heap.size, 1, none⟩ (.int .i64 (pa : Int))).setCell ⟨w1.heap.size, 2, none⟩ (.int .i64 (p1 : Int))).setCell ⟨w1.heap.size, 3, none⟩ (.string ⟨tx.toArray⟩)).setCell ⟨w1.heap.size, 4, none⟩ (.int .i64 0)) = W7 := ⟨_, rfl⟩
                obtain ⟨hP7, hpb7⟩ := HP6.out.pset _ _ _ _ _ W7 hW7.symm
                obtain ⟨r0, r1, r2, r3, r4, _, _, _, _, _⟩ := vbox_cells hpb7
                have HP7 := Hid.mk hP7
                have hl7 : w1.heap.size < W7.heap.size := (Array.getElem?_eq_some_iff.1 hpb7).1
                clear hpb hP7 hpb7
                go_wp2_with fail
                go_roundw
                case rel => exact ⟨f, xs ++ [T], p1, by have := HM.out.2; omega, rfl, (by show s.size < p1 + f; have := HF.out; have := HM.out.1; have := HQ.out; omega), HP7, HG3, (by show (xs ++ [T]).length ≤ p1; rw [List.length_append]; show xs.length + 1 ≤ p1; have := HFit.out; have := HM.out.1; have := HQ.out; omega)⟩
                case measure =>
                  have := HM.out.1
                  have := HM.out.2
                  have := HQ.out
                  simp [intOf]
                  omega
              · have hsg : sg5 kd ≠ 93 ∧ sg5 kd ≠ 44 ∧ sg5 kd ≠ 36 := by
                  have hcs : kd = 1 ∨ kd = 2 ∨ kd = 3 ∨ kd = 5 ∨ kd = 7 ∨ kd = 8 ∨ kd = 9 ∨ kd = 10 ∨ kd = 11 := by omega
                  rcases hcs with rfl | rfl | rfl | rfl | rfl | rfl | rfl | rfl | rfl <;> decide
                have HRR : Hid (Rd.bad 51 pa = R) := by
                  show _ = _
                  rw [← HG2.out, loopL, h1]
                  dsimp only
                  rw [if_neg h4, if_neg h6]
                clear h1 HG2 k1 k2 h4 h6
                generalize sg5 kd = sg at *
                obtain ⟨n1, n2, n3⟩ := hsg
                have hn1 : (((sg : Nat) : Int) == 93) = false := by rw [beq_eq_false_iff_ne]; omega
                have hn2 : (((sg : Nat) : Int) == 44) = false := by rw [beq_eq_false_iff_ne]; omega
                have hm1 : ¬ ((sg : Nat) : Int) = 93 := by omega
                have hm2 : ¬ ((sg : Nat) : Int) = 44 := by omega
                have HW2 : Hid (∀ u, Calls Tryz.prog 46 #[.agg #[.int .u8 (sg : Int), .int .i64 (pa : Int), .int .i64 (p1 : Int), .string ⟨tx.toArray⟩, .int .i64 0]] u fun e w' => Below u.heap.size u w' ∧ e = .returned (bad5 pa 51)) := fun u => by
                  have hw := HWr.out sg pa p1 tx 0 u
                  rw [if_pos rfl, if_neg n3] at hw
                  exact hw
                clear n1 n2 n3
                unfold pc5
                obtain ⟨y0, y1, y2, y3, y4, hpb⟩ := HP6.out.pb
                obtain ⟨p0, p1', p2', p3', p4', pf0, pf1, pf2, pf3, pf4⟩ := vbox_cells hpb
                obtain ⟨W7, hW7⟩ : ∃ W7, (((((w6.setCell ⟨w1.heap.size, 0, none⟩ (.int .u8 (sg : Int))).setCell ⟨w1.heap.size, 1, none⟩ (.int .i64 (pa : Int))).setCell ⟨w1.heap.size, 2, none⟩ (.int .i64 (p1 : Int))).setCell ⟨w1.heap.size, 3, none⟩ (.string ⟨tx.toArray⟩)).setCell ⟨w1.heap.size, 4, none⟩ (.int .i64 0)) = W7 := ⟨_, rfl⟩
                obtain ⟨hP7, hpb7⟩ := HP6.out.pset _ _ _ _ _ W7 hW7.symm
                obtain ⟨r0, r1, r2, r3, r4, _, _, _, _, _⟩ := vbox_cells hpb7
                have HP7 := Hid.mk hP7
                have hl7 : w1.heap.size < W7.heap.size := (Array.getElem?_eq_some_iff.1 hpb7).1
                clear hpb hP7 hpb7
                go_wp2_with fail
                refine ((HW2).out _).mono ?_
                rintro e w8 ⟨hb8, rfl⟩
                have HP8 := Hid.mk (HP7.out.low hb8)
                obtain ⟨c0, c1, c2, c3, c4, c5, c6, f0, f1, f2, f3, f4, f5, f6⟩ := box7_cells HP8.out.res
                have HX := Hid.mk HP8.out.res
                have HB := Hid.mk HP8.out.bel
                clear hb8
                unfold bad5 ans5
                go_wp2_with fail
                (try simp only [Exit.inBlock, Exit.then])
                generalize hz7 : (((((((w8.setCell ⟨w.heap.size, 0, none⟩ (.int .i64 0)).setCell ⟨w.heap.size, 1, none⟩ (.string ⟨#[]⟩)).setCell ⟨w.heap.size, 2, none⟩ (.string ⟨#[]⟩)).setCell ⟨w.heap.size, 3, none⟩ (.slice none 0 0)).setCell ⟨w.heap.size, 4, none⟩ (.slice none 0 0)).setCell ⟨w.heap.size, 5, none⟩ (.int .i64 (pa : Int))).setCell ⟨w.heap.size, 6, none⟩ (.int .i64 51)) = wz
                obtain ⟨e7, k7, s7⟩ := rbox_set7 w8 _ _ _ _ _ _ _ _ _ _ _ _ _ _ _ _ HX.out wz hz7.symm
                obtain ⟨d0, d1, d2, d3, d4, d5, d6, _⟩ := box7_cells e7
                have hbz : Below w.heap.size w wz := by rw [← hz7]; exact ((((((HB.out.setCell (p := ⟨w.heap.size, 0, none⟩) (by show w.heap.size ≤ w.heap.size; omega) _).setCell (p := ⟨w.heap.size, 1, none⟩) (by show w.heap.size ≤ w.heap.size; omega) _).setCell (p := ⟨w.heap.size, 2, none⟩) (by show w.heap.size ≤ w.heap.size; omega) _).setCell (p := ⟨w.heap.size, 3, none⟩) (by show w.heap.size ≤ w.heap.size; omega) _).setCell (p := ⟨w.heap.size, 4, none⟩) (by show w.heap.size ≤ w.heap.size; omega) _).setCell (p := ⟨w.heap.size, 5, none⟩) (by show w.heap.size ≤ w.heap.size; omega) _).setCell (p := ⟨w.heap.size, 6, none⟩) (by show w.heap.size ≤ w.heap.size; omega) _
                refine bodyPost_ret (v := .agg #[.int .i64 0, .string ⟨#[]⟩, .string ⟨#[]⟩, .slice none 0 0, .slice none 0 0, .int .i64 (pa : Int), .int .i64 51]) (by simp [results, Tryz.results48, go_sem, d0, d1, d2, d3, d4, d5, d6]) rfl ?_
                exact ⟨hbz, by rw [← HRR.out]; exact ⟨by omega, rfl⟩⟩
          · clear hnx
            have HRR : Hid (Rd.bad er q' = R) := by
              show _ = _
              rw [← HG2.out, loopL, h1]
            have HE := Hid.mk h2
            clear h1 HG2 h2
            rcases hc with ⟨hc0, rfl⟩ | ⟨rfl, rfl, rfl⟩
            · have hn1 : (((er : Nat) : Int) == 0) = false := by rw [beq_eq_false_iff_ne]; omega
              have hm1 : ¬ ((er : Nat) : Int) = 0 := by omega
              have HW2 : Hid (∀ u, Calls Tryz.prog 46 #[.agg #[.int .u8 (sg : Int), .int .i64 (q' : Int), .int .i64 (z' : Int), .string ⟨#[]⟩, .int .i64 (er : Int)]] u fun e w' => Below u.heap.size u w' ∧ e = .returned (bad5 q' er)) := fun u => by
                have hw := HWr.out sg q' z' [] er u
                rw [if_neg hc0] at hw
                exact hw
              clear hc0
              unfold pc5
              obtain ⟨y0, y1, y2, y3, y4, hpb⟩ := HP6.out.pb
              obtain ⟨p0, p1', p2', p3', p4', pf0, pf1, pf2, pf3, pf4⟩ := vbox_cells hpb
              obtain ⟨W7, hW7⟩ : ∃ W7, (((((w6.setCell ⟨w1.heap.size, 0, none⟩ (.int .u8 (sg : Int))).setCell ⟨w1.heap.size, 1, none⟩ (.int .i64 (q' : Int))).setCell ⟨w1.heap.size, 2, none⟩ (.int .i64 (z' : Int))).setCell ⟨w1.heap.size, 3, none⟩ (.string ⟨#[]⟩)).setCell ⟨w1.heap.size, 4, none⟩ (.int .i64 (er : Int))) = W7 := ⟨_, rfl⟩
              obtain ⟨hP7, hpb7⟩ := HP6.out.pset _ _ _ _ _ W7 hW7.symm
              obtain ⟨r0, r1, r2, r3, r4, _, _, _, _, _⟩ := vbox_cells hpb7
              have HP7 := Hid.mk hP7
              have hl7 : w1.heap.size < W7.heap.size := (Array.getElem?_eq_some_iff.1 hpb7).1
              clear hpb hP7 hpb7
              go_wp2_with fail
              refine ((HW2).out _).mono ?_
              rintro e w8 ⟨hb8, rfl⟩
              have HP8 := Hid.mk (HP7.out.low hb8)
              obtain ⟨c0, c1, c2, c3, c4, c5, c6, f0, f1, f2, f3, f4, f5, f6⟩ := box7_cells HP8.out.res
              have HX := Hid.mk HP8.out.res
              have HB := Hid.mk HP8.out.bel
              clear hb8
              unfold bad5 ans5
              go_wp2_with fail
              (try simp only [Exit.inBlock, Exit.then])
              generalize hz7 : (((((((w8.setCell ⟨w.heap.size, 0, none⟩ (.int .i64 0)).setCell ⟨w.heap.size, 1, none⟩ (.string ⟨#[]⟩)).setCell ⟨w.heap.size, 2, none⟩ (.string ⟨#[]⟩)).setCell ⟨w.heap.size, 3, none⟩ (.slice none 0 0)).setCell ⟨w.heap.size, 4, none⟩ (.slice none 0 0)).setCell ⟨w.heap.size, 5, none⟩ (.int .i64 (q' : Int))).setCell ⟨w.heap.size, 6, none⟩ (.int .i64 (er : Int))) = wz
              obtain ⟨e7, k7, s7⟩ := rbox_set7 w8 _ _ _ _ _ _ _ _ _ _ _ _ _ _ _ _ HX.out wz hz7.symm
              obtain ⟨d0, d1, d2, d3, d4, d5, d6, _⟩ := box7_cells e7
              have hbz : Below w.heap.size w wz := by rw [← hz7]; exact ((((((HB.out.setCell (p := ⟨w.heap.size, 0, none⟩) (by show w.heap.size ≤ w.heap.size; omega) _).setCell (p := ⟨w.heap.size, 1, none⟩) (by show w.heap.size ≤ w.heap.size; omega) _).setCell (p := ⟨w.heap.size, 2, none⟩) (by show w.heap.size ≤ w.heap.size; omega) _).setCell (p := ⟨w.heap.size, 3, none⟩) (by show w.heap.size ≤ w.heap.size; omega) _).setCell (p := ⟨w.heap.size, 4, none⟩) (by show w.heap.size ≤ w.heap.size; omega) _).setCell (p := ⟨w.heap.size, 5, none⟩) (by show w.heap.size ≤ w.heap.size; omega) _).setCell (p := ⟨w.heap.size, 6, none⟩) (by show w.heap.size ≤ w.heap.size; omega) _
              refine bodyPost_ret (v := .agg #[.int .i64 0, .string ⟨#[]⟩, .string ⟨#[]⟩, .slice none 0 0, .slice none 0 0, .int .i64 (q' : Int), .int .i64 (er : Int)]) (by simp [results, Tryz.results48, go_sem, d0, d1, d2, d3, d4, d5, d6]) rfl ?_
              exact ⟨hbz, by rw [← HRR.out]; exact ⟨HE.out, rfl⟩⟩
            · have HW2 : Hid (∀ u, Calls Tryz.prog 46 #[.agg #[.int .u8 36, .int .i64 (q' : Int), .int .i64 (z' : Int), .string ⟨#[]⟩, .int .i64 0]] u fun e w' => Below u.heap.size u w' ∧ e = .returned (bad5 q' 50)) := fun u => by
                have hw := HWr.out 36 q' z' [] 0 u
                rw [if_pos rfl, if_pos rfl] at hw
                exact hw
              unfold pc5
              obtain ⟨y0, y1, y2, y3, y4, hpb⟩ := HP6.out.pb
              obtain ⟨p0, p1', p2', p3', p4', pf0, pf1, pf2, pf3, pf4⟩ := vbox_cells hpb
              obtain ⟨W7, hW7⟩ : ∃ W7, (((((w6.setCell ⟨w1.heap.size, 0, none⟩ (.int .u8 36)).setCell ⟨w1.heap.size, 1, none⟩ (.int .i64 (q' : Int))).setCell ⟨w1.heap.size, 2, none⟩ (.int .i64 (z' : Int))).setCell ⟨w1.heap.size, 3, none⟩ (.string ⟨#[]⟩)).setCell ⟨w1.heap.size, 4, none⟩ (.int .i64 0)) = W7 := ⟨_, rfl⟩
              obtain ⟨hP7, hpb7⟩ := HP6.out.pset _ _ _ _ _ W7 hW7.symm
              obtain ⟨r0, r1, r2, r3, r4, _, _, _, _, _⟩ := vbox_cells hpb7
              have HP7 := Hid.mk hP7
              have hl7 : w1.heap.size < W7.heap.size := (Array.getElem?_eq_some_iff.1 hpb7).1
              clear hpb hP7 hpb7
              go_wp2_with fail
              refine ((HW2).out _).mono ?_
              rintro e w8 ⟨hb8, rfl⟩
              have HP8 := Hid.mk (HP7.out.low hb8)
              obtain ⟨c0, c1, c2, c3, c4, c5, c6, f0, f1, f2, f3, f4, f5, f6⟩ := box7_cells HP8.out.res
              have HX := Hid.mk HP8.out.res
              have HB := Hid.mk HP8.out.bel
              clear hb8
              unfold bad5 ans5
              go_wp2_with fail
              (try simp only [Exit.inBlock, Exit.then])
              generalize hz7 : (((((((w8.setCell ⟨w.heap.size, 0, none⟩ (.int .i64 0)).setCell ⟨w.heap.size, 1, none⟩ (.string ⟨#[]⟩)).setCell ⟨w.heap.size, 2, none⟩ (.string ⟨#[]⟩)).setCell ⟨w.heap.size, 3, none⟩ (.slice none 0 0)).setCell ⟨w.heap.size, 4, none⟩ (.slice none 0 0)).setCell ⟨w.heap.size, 5, none⟩ (.int .i64 (q' : Int))).setCell ⟨w.heap.size, 6, none⟩ (.int .i64 50)) = wz
              obtain ⟨e7, k7, s7⟩ := rbox_set7 w8 _ _ _ _ _ _ _ _ _ _ _ _ _ _ _ _ HX.out wz hz7.symm
              obtain ⟨d0, d1, d2, d3, d4, d5, d6, _⟩ := box7_cells e7
              have hbz : Below w.heap.size w wz := by rw [← hz7]; exact ((((((HB.out.setCell (p := ⟨w.heap.size, 0, none⟩) (by show w.heap.size ≤ w.heap.size; omega) _).setCell (p := ⟨w.heap.size, 1, none⟩) (by show w.heap.size ≤ w.heap.size; omega) _).setCell (p := ⟨w.heap.size, 2, none⟩) (by show w.heap.size ≤ w.heap.size; omega) _).setCell (p := ⟨w.heap.size, 3, none⟩) (by show w.heap.size ≤ w.heap.size; omega) _).setCell (p := ⟨w.heap.size, 4, none⟩) (by show w.heap.size ≤ w.heap.size; omega) _).setCell (p := ⟨w.heap.size, 5, none⟩) (by show w.heap.size ≤ w.heap.size; omega) _).setCell (p := ⟨w.heap.size, 6, none⟩) (by show w.heap.size ≤ w.heap.size; omega) _
              refine bodyPost_ret (v := .agg #[.int .i64 0, .string ⟨#[]⟩, .string ⟨#[]⟩, .slice none 0 0, .slice none 0 0, .int .i64 (q' : Int), .int .i64 50]) (by simp [results, Tryz.results48, go_sem, d0, d1, d2, d3, d4, d5, d6]) rfl ?_
              exact ⟨hbz, by rw [← HRR.out]; exact ⟨by omega, rfl⟩⟩
    · have hsb : (((sg : Nat) : Int) == 93) = false := by rw [beq_eq_false_iff_ne]; omega
      have hsn : ¬ ((sg : Nat) : Int) = 93 := by omega
      go_wp2_with fail
      clear hs93 hsb hsn
      go_loopw [1] (fun q' wr => ∃ (f : Nat) (xs : List VT) (q : Nat), q ≤ s.size ∧ q' = .int .i64 (q : Int) ∧ Hid (s.size < q + f) ∧ Hid (RAs (w1.heap.size + 1) w1.heap.size h xs w wr) ∧ Hid ((match RgL s.data.toList vl f xs q with | .ok xs q => Rd.ok (VT.mk 5 .empty .empty xs []) q | .bad e q => .bad e q) = R) ∧ Hid (xs.length ≤ q)) (fun a _ => s.size + 1 - (intOf a).toNat)
      case atStart => exact ⟨s.size + 1, [], p, hp, rfl, (by show s.size < p + (s.size + 1); omega), HS1, HRG, Nat.zero_le _⟩
      case round =>
        clear HS1 HRG
        obtain ⟨f, xs, q, hq, rfl, HF, HS, HG, HFit⟩ := hrel
        obtain ⟨f, rfl⟩ : ∃ f', f = f' + 1 := ⟨f - 1, by have := HF.out; omega⟩
        have hle : (q : Int) ≤ (s.size : Int) := by omega
        go_wp2_with fail
        refine (HRd.out q _ hq).mono ?_
        rintro e w2 ⟨hb2, hm⟩
        have HP2 := Hid.mk (HS.out.low hb2)
        obtain ⟨c0, c1, c2, c3, c4, c5, c6, f0, f1, f2, f3, f4, f5, f6⟩ := box7_cells HP2.out.res
        have hw2 : w.heap.size < w2.heap.size := (Array.getElem?_eq_some_iff.1 HP2.out.res).1
        have hG := HG.out
        unfold RgL at hG
        cases hr : rdL s.data.toList vl q with
        | bad er q2 =>
          rw [hr] at hm hG
          obtain ⟨h0, rfl⟩ := hm
          have HRR : Hid (Rd.bad er q2 = R) := hG
          have H0 := Hid.mk h0
          have hcb : (((er : Nat) : Int) == 0) = false := by rw [beq_eq_false_iff_ne]; omega
          have hcn : ¬ ((er : Nat) : Int) = 0 := by omega
          clear hr hG h0 hb2 HG HS
          unfold bad5 ans5
          go_wp2_with fail
          (try simp only [Exit.inBlock, Exit.then])
          have HX := Hid.mk HP2.out.res
          have HB := Hid.mk HP2.out.bel
          generalize hz7 : (((((((w2.setCell ⟨w.heap.size, 0, none⟩ (.int .i64 0)).setCell ⟨w.heap.size, 1, none⟩ (.string ⟨#[]⟩)).setCell ⟨w.heap.size, 2, none⟩ (.string ⟨#[]⟩)).setCell ⟨w.heap.size, 3, none⟩ (.slice none 0 0)).setCell ⟨w.heap.size, 4, none⟩ (.slice none 0 0)).setCell ⟨w.heap.size, 5, none⟩ (.int .i64 (q2 : Int))).setCell ⟨w.heap.size, 6, none⟩ (.int .i64 (er : Int))) = wz
          obtain ⟨e7, k7, s7⟩ := rbox_set7 w2 _ _ _ _ _ _ _ _ _ _ _ _ _ _ _ _ HX.out wz hz7.symm
          have e8 := (Below.heap_alloc wz (.cells #[.int .i64 0, .string ⟨#[]⟩, .string ⟨#[]⟩, .slice none 0 0, .slice none 0 0, .int .i64 (q2 : Int), .int .i64 (er : Int)] 72) w.heap.size (by omega)).trans e7
          obtain ⟨d0, d1, d2, d3, d4, d5, d6, _⟩ := box7_cells e8
          have hbz : Below w.heap.size w wz := by rw [← hz7]; exact ((((((HB.out.setCell (p := ⟨w.heap.size, 0, none⟩) (Nat.le_refl _) _).setCell (p := ⟨w.heap.size, 1, none⟩) (Nat.le_refl _) _).setCell (p := ⟨w.heap.size, 2, none⟩) (Nat.le_refl _) _).setCell (p := ⟨w.heap.size, 3, none⟩) (Nat.le_refl _) _).setCell (p := ⟨w.heap.size, 4, none⟩) (Nat.le_refl _) _).setCell (p := ⟨w.heap.size, 5, none⟩) (Nat.le_refl _) _).setCell (p := ⟨w.heap.size, 6, none⟩) (Nat.le_refl _) _
          refine bodyPost_ret (v := .agg #[.int .i64 0, .string ⟨#[]⟩, .string ⟨#[]⟩, .slice none 0 0, .slice none 0 0, .int .i64 (q2 : Int), .int .i64 (er : Int)]) (by simp [results, Tryz.results48, go_sem, d0, d1, d2, d3, d4, d5, d6]) rfl ?_
          rw [← HRR.out]
          exact ⟨hbz.alloc hbz.size _, H0.out, rfl⟩
        | ok T q2 =>
          rw [hr] at hm hG
          dsimp only at hG
          obtain ⟨u1, u2⟩ := rdL_up HUp.out hq hr
          obtain ⟨x0, x1, x2, x3, x4, rfl, hF⟩ := hm
          obtain ⟨jo, jc, ko, kc, hv, hrest⟩ := id hF
          simp only [Value.agg.injEq, Array.mk.injEq, List.cons.injEq, and_true] at hv
          obtain ⟨rfl, rfl, rfl, rfl, rfl⟩ := hv
          clear hrest
          obtain ⟨k, io, cap, c, hA0⟩ := HS.out.arr
          have hA2 := hA0.low hb2
          have hT : InD (rowD (w1.heap.size + 1) (.slice io k cap)) w2 (h + 1) T (.agg #[.int .i64 T.kind, .string T.num, .string T.text, .slice jo T.items.length jc, .slice ko T.keys.length kc]) := InD.keep (Nat.le_refl _) (fun b _ _ => rfl) (fun b hb _ => ⟨by have h1 : wr.heap.size ≤ b := hb; have h2 := hA0.ll; omega, fun e => by have h1 := (own_low hA0.own e).2; have h2 : wr.heap.size ≤ b := hb; omega⟩) (InD.iff.2 hF)
          have hA3 := hA2.low (below1 w2 (.cells #[.int .i64 T.kind, .string T.num, .string T.text, .slice jo T.items.length jc, .slice ko T.keys.length kc, .int .i64 (q2 : Int), .int .i64 0] 72))
          have hT3 := InD.keep (below1 w2 (.cells #[.int .i64 T.kind, .string T.num, .string T.text, .slice jo T.items.length jc, .slice ko T.keys.length kc, .int .i64 (q2 : Int), .int .i64 0] 72)).size (fun b _ hl => (below1 w2 (.cells #[.int .i64 T.kind, .string T.num, .string T.text, .slice jo T.items.length jc, .slice ko T.keys.length kc, .int .i64 (q2 : Int), .int .i64 0] 72)).block b hl) (fun b hb _ => hb) hT
          have HAT := Hid.mk (And.intro hA3 hT3)
          obtain ⟨b0, b1, b2, b3, b4, bf0, bf1, bf2, bf3, bf4⟩ := vbox_cells hA2.box
          have hown := hA2.own
          have hnw := heap_alloc_new (w2.alloc (.cells #[.int .i64 T.kind, .string T.num, .string T.text, .slice jo T.items.length jc, .slice ko T.keys.length kc, .int .i64 (q2 : Int), .int .i64 0] 72)) (.cells #[.int .i64 T.kind, .string T.num, .string T.text, .slice jo T.items.length jc, .slice ko T.keys.length kc] 27)
          rw [World.size_alloc] at hnw
          have hO2 : w.heap.size + 1 < w2.heap.size := by have h1 := HP2.out.pl; have h2 := HP2.out.pl2; have h3 := hA2.ll; omega
          have hlo2 : w1.heap.size + 1 ≤ w2.heap.size := hA2.ll
          have hkk : k ≤ 1048576 := by have h1 := hA2.len; have h2 := HFit.out; omega
          have HG2 := Hid.mk hG
          have HQ := Hid.mk (And.intro u1 u2)
          clear hr hG hF hA0 hT hA3 hT3 hb2 HG HS u1 hA2
          unfold ans5
          go_wp2_with (at_builtin; refine wpList_append_own_at _ (by rfl) _ _ 24 (by rfl) (w1.heap.size + 1) 27 i0 (.agg #[.int .i64 0, .string ⟨#[]⟩, .string ⟨#[]⟩, .slice none 0 0, .slice none 0 0]) 5 88 Tryz.underlying24 hi0 hz0 hz1 hz2 rfl (by decide) _ _ _ (by rfl) ((hown.alloc _).alloc _) ⟨w2.heap.size + 1, 0, none⟩ 1 1 [.int .i64 T.kind, .string T.num, .string T.text, .slice jo T.items.length jc, .slice ko T.keys.length kc] (by rfl) (by rfl) (World.news_of_block (cs := #[.int .i64 T.kind, .string T.num, .string T.text, .slice jo T.items.length jc, .slice ko T.keys.length kc]) (fr := (0, 0)) hnw) (by simp [Value.oneCell']) (by unfold maxLen; omega) (by omega) (by simp; omega) ?_)
          intro v' w4 hown4 hgrow4 hnil4 hat4
          obtain ⟨g, cap', hv'⟩ := own_succR hown4
          subst hv'
          obtain ⟨hA5, hk5, hO4⟩ := ArC.app HAT.out.1 HAT.out.2 hown4 hgrow4 (by rw [World.size_alloc, World.size_alloc]; exact hat4)
          have HP3 := Hid.mk (HP2.out.low (below1 w2 (.cells #[.int .i64 T.kind, .string T.num, .string T.text, .slice jo T.items.length jc, .slice ko T.keys.length kc, .int .i64 (q2 : Int), .int .i64 0] 72)))
          have hP5 := HP3.out.app HAT.out.1 hgrow4 hA5 hk5
          obtain ⟨o0, o1, o2, o3, o4, of0, of1, of2, of3, of4⟩ := vbox_cells hO4
          have hab : w4.heap[w2.heap.size]? = some (.cells #[.int .i64 T.kind, .string T.num, .string T.text, .slice jo T.items.length jc, .slice ko T.keys.length kc, .int .i64 (q2 : Int), .int .i64 0] 72 (0, 0)) := (hk5 _ (by simp) (by omega) (fun e => by have h1 := (own_low hown e).2; omega)).trans (heap_alloc_new w2 _)
          have q5 := (box7_cells hab).2.2.2.2.2.1
          obtain ⟨W5, hW5⟩ : ∃ W5, w4.setCell ⟨w.heap.size + 1, 3, none⟩ (.slice (some ⟨g, 0, none⟩) (k + 1) cap') = W5 := ⟨_, rfl⟩
          rw [hW5] at hP5
          have hab5 : W5.heap[w2.heap.size]? = some (.cells #[.int .i64 T.kind, .string T.num, .string T.text, .slice jo T.items.length jc, .slice ko T.keys.length kc, .int .i64 (q2 : Int), .int .i64 0] 72 (0, 0)) := by rw [← hW5, Below.heap_setCell _ _ _ _ (by show w2.heap.size ≠ w.heap.size + 1; omega)]; exact hab
          have q55 := (box7_cells hab5).2.2.2.2.2.1
          have HP5 := Hid.mk hP5
          clear hA5 hk5 hO4 hP5 hab hab5 hgrow4 hat4 hown4 hnil4 hown hnw c0 c1 c2 c3 c4 c5 c6 f0 f1 f2 f3 f4 f5 f6 b0 b1 b2 b3 b4 bf0 bf1 bf2 bf3 bf4
          go_wp2_with fail
          refine (HN.out _ q2 u2).mono ?_
          rintro e w6 ⟨hb6, hnx⟩
          have HP6 := Hid.mk (HP5.out.low hb6)
          clear hb6
          rcases nx5_must hnx with ⟨t, p1, h1, k1, k2, rfl⟩ | ⟨sg, q', z', cd, er, h1, h2, rfl, hc⟩
          · obtain ⟨kd, pa, fi, tx, er⟩ := t
            dsimp only at k1 k2 ⊢
            clear hnx
            by_cases h4 : kd = 4
            · subst h4
              have HRR : Hid (Rd.ok (VT.mk 5 .empty .empty (xs ++ [T]) []) p1 = R) := by
                show _ = _
                rw [← HG2.out, loopL, h1]
                dsimp only
                rw [if_pos rfl]
              clear h1 HG2 k1 k2
              rw [show sg5 4 = 93 from rfl]
              unfold pc5
              obtain ⟨y0, y1, y2, y3, y4, hpb⟩ := HP6.out.pb
              obtain ⟨p0, p1', p2', p3', p4', pf0, pf1, pf2, pf3, pf4⟩ := vbox_cells hpb
              obtain ⟨W7, hW7⟩ : ∃ W7, (((((w6.setCell ⟨w1.heap.size, 0, none⟩ (.int .u8 93)).setCell ⟨w1.heap.size, 1, none⟩ (.int .i64 (pa : Int))).setCell ⟨w1.heap.size, 2, none⟩ (.int .i64 (p1 : Int))).setCell ⟨w1.heap.size, 3, none⟩ (.string ⟨tx.toArray⟩)).setCell ⟨w1.heap.size, 4, none⟩ (.int .i64 0)) = W7 := ⟨_, rfl⟩
              obtain ⟨hP7, hpb7⟩ := HP6.out.pset _ _ _ _ _ W7 hW7.symm
              obtain ⟨r0, r1, r2, r3, r4, _, _, _, _, _⟩ := vbox_cells hpb7
              have HP7 := Hid.mk hP7
              have hl7 : w1.heap.size < W7.heap.size := (Array.getElem?_eq_some_iff.1 hpb7).1
              clear hpb hP7 hpb7
              obtain ⟨kA, ioA, capA, cA, hA7⟩ := HP7.out.arr
              obtain ⟨g0, g1, g2, g3, g4, _, _, _, _, _⟩ := vbox_cells hA7.box
              obtain ⟨c0, c1, c2, c3, c4, c5, c6, f0, f1, f2, f3, f4, f5, f6⟩ := box7_cells HP7.out.res
              have hlw : w.heap.size < W7.heap.size := (Array.getElem?_eq_some_iff.1 HP7.out.res).1
              have HA7 := Hid.mk hA7
              clear hA7
              go_wp2_with fail
              (try simp only [Exit.inBlock, Exit.then])
              have HX := Hid.mk HP7.out.res
              have HB := Hid.mk HP7.out.bel
              generalize hz7 : (((((((W7.setCell ⟨w.heap.size, 0, none⟩ (.int .i64 5)).setCell ⟨w.heap.size, 1, none⟩ (.string ⟨#[]⟩)).setCell ⟨w.heap.size, 2, none⟩ (.string ⟨#[]⟩)).setCell ⟨w.heap.size, 3, none⟩ (.slice ioA kA capA)).setCell ⟨w.heap.size, 4, none⟩ (.slice none 0 0)).setCell ⟨w.heap.size, 5, none⟩ (.int .i64 (p1 : Int))).setCell ⟨w.heap.size, 6, none⟩ (.int .i64 0)) = wz
              obtain ⟨e7, k7, s7⟩ := rbox_set7 W7 _ _ _ _ _ _ _ _ _ _ _ _ _ _ _ _ HX.out wz hz7.symm
              obtain ⟨d0, d1, d2, d3, d4, d5, d6, _⟩ := box7_cells e7
              have hbz : Below w.heap.size w wz := by rw [← hz7]; exact ((((((HB.out.setCell (p := ⟨w.heap.size, 0, none⟩) (by show w.heap.size ≤ w.heap.size; omega) _).setCell (p := ⟨w.heap.size, 1, none⟩) (by show w.heap.size ≤ w.heap.size; omega) _).setCell (p := ⟨w.heap.size, 2, none⟩) (by show w.heap.size ≤ w.heap.size; omega) _).setCell (p := ⟨w.heap.size, 3, none⟩) (by show w.heap.size ≤ w.heap.size; omega) _).setCell (p := ⟨w.heap.size, 4, none⟩) (by show w.heap.size ≤ w.heap.size; omega) _).setCell (p := ⟨w.heap.size, 5, none⟩) (by show w.heap.size ≤ w.heap.size; omega) _).setCell (p := ⟨w.heap.size, 6, none⟩) (by show w.heap.size ≤ w.heap.size; omega) _
              refine bodyPost_ret (v := .agg #[.int .i64 5, .string ⟨#[]⟩, .string ⟨#[]⟩, .slice ioA kA capA, .slice none 0 0, .int .i64 (p1 : Int), .int .i64 0]) (by simp [results, Tryz.results48, go_sem, d0, d1, d2, d3, d4, d5, d6]) rfl ?_
              exact ⟨hbz, by rw [← HRR.out]; exact ⟨_, _, _, _, _, rfl, arr_done (w := w) HA7.out (by have h1 := HA7.out.len; have h2 := HFit.out; rw [List.length_append] at h1; have h3 : xs.length + 1 = kA := h1; omega) (by omega) (by omega) (fun b hb hl => k7 b (by omega))⟩⟩
            · by_cases h6 : kd = 6
              · subst h6
                obtain ⟨v5, v6⟩ := mustL_up (l := s.data.toList) (by omega) h1
                have HG3 : Hid ((match RgL s.data.toList vl f (xs ++ [T]) p1 with | .ok xs q => Rd.ok (VT.mk 5 .empty .empty xs []) q | .bad e q => .bad e q) = R) := by
                  show _ = _
                  rw [← HG2.out, RgL_up h1 (by show ¬ 6 = 4; omega) rfl]
                have HM := Hid.mk (And.intro v5 v6)
                clear h1 HG2 k1 k2 h4 v5 v6
                rw [show sg5 6 = 44 from rfl]
                unfold pc5
                obtain ⟨y0, y1, y2, y3, y4, hpb⟩ := HP6.out.pb
                obtain ⟨p0, p1', p2', p3', p4', pf0, pf1, pf2, pf3, pf4⟩ := vbox_cells hpb
                obtain ⟨W7, hW7⟩ : ∃ W7, (((((w6.setCell ⟨w1.heap.size, 0, none⟩ (.int .u8 44)).setCell ⟨w1.heap.size, 1, none⟩ (.int .i64 (pa : Int))).setCell ⟨w1.heap.size, 2, none⟩ (.int .i64 (p1 : Int))).setCell ⟨w1.heap.size, 3, none⟩ (.string ⟨tx.toArray⟩)).setCell ⟨w1.heap.size, 4, none⟩ (.int .i64 0)) = W7 := ⟨_, rfl⟩
                obtain ⟨hP7, hpb7⟩ := HP6.out.pset _ _ _ _ _ W7 hW7.symm
                obtain ⟨r0, r1, r2, r3, r4, _, _, _, _, _⟩ := vbox_cells hpb7
                have HP7 := Hid.mk hP7
                have hl7 : w1.heap.size < W7.heap.size := (Array.getElem?_eq_some_iff.1 hpb7).1
                clear hpb hP7 hpb7
                go_wp2_with fail
                go_roundw
                case rel => exact ⟨f, xs ++ [T], p1, by have := HM.out.2; omega, rfl, (by show s.size < p1 + f; have := HF.out; have := HM.out.1; have := HQ.out; omega), HP7, HG3, (by show (xs ++ [T]).length ≤ p1; rw [List.length_append]; show xs.length + 1 ≤ p1; have := HFit.out; have := HM.out.1; have := HQ.out; omega)⟩
                case measure =>
                  have := HM.out.1
                  have := HM.out.2
                  have := HQ.out
                  simp [intOf]
                  omega
              · have hsg : sg5 kd ≠ 93 ∧ sg5 kd ≠ 44 ∧ sg5 kd ≠ 36 := by
                  have hcs : kd = 1 ∨ kd = 2 ∨ kd = 3 ∨ kd = 5 ∨ kd = 7 ∨ kd = 8 ∨ kd = 9 ∨ kd = 10 ∨ kd = 11 := by omega
                  rcases hcs with rfl | rfl | rfl | rfl | rfl | rfl | rfl | rfl | rfl <;> decide
                have HRR : Hid (Rd.bad 51 pa = R) := by
                  show _ = _
                  rw [← HG2.out, loopL, h1]
                  dsimp only
                  rw [if_neg h4, if_neg h6]
                clear h1 HG2 k1 k2 h4 h6
                generalize sg5 kd = sg at *
                obtain ⟨n1, n2, n3⟩ := hsg
                have hn1 : (((sg : Nat) : Int) == 93) = false := by rw [beq_eq_false_iff_ne]; omega
                have hn2 : (((sg : Nat) : Int) == 44) = false := by rw [beq_eq_false_iff_ne]; omega
                have hm1 : ¬ ((sg : Nat) : Int) = 93 := by omega
                have hm2 : ¬ ((sg : Nat) : Int) = 44 := by omega
                have HW2 : Hid (∀ u, Calls Tryz.prog 46 #[.agg #[.int .u8 (sg : Int), .int .i64 (pa : Int), .int .i64 (p1 : Int), .string ⟨tx.toArray⟩, .int .i64 0]] u fun e w' => Below u.heap.size u w' ∧ e = .returned (bad5 pa 51)) := fun u => by
                  have hw := HWr.out sg pa p1 tx 0 u
                  rw [if_pos rfl, if_neg n3] at hw
                  exact hw
                clear n1 n2 n3
                unfold pc5
                obtain ⟨y0, y1, y2, y3, y4, hpb⟩ := HP6.out.pb
                obtain ⟨p0, p1', p2', p3', p4', pf0, pf1, pf2, pf3, pf4⟩ := vbox_cells hpb
                obtain ⟨W7, hW7⟩ : ∃ W7, (((((w6.setCell ⟨w1.heap.size, 0, none⟩ (.int .u8 (sg : Int))).setCell ⟨w1.heap.size, 1, none⟩ (.int .i64 (pa : Int))).setCell ⟨w1.heap.size, 2, none⟩ (.int .i64 (p1 : Int))).setCell ⟨w1.heap.size, 3, none⟩ (.string ⟨tx.toArray⟩)).setCell ⟨w1.heap.size, 4, none⟩ (.int .i64 0)) = W7 := ⟨_, rfl⟩
                obtain ⟨hP7, hpb7⟩ := HP6.out.pset _ _ _ _ _ W7 hW7.symm
                obtain ⟨r0, r1, r2, r3, r4, _, _, _, _, _⟩ := vbox_cells hpb7
                have HP7 := Hid.mk hP7
                have hl7 : w1.heap.size < W7.heap.size := (Array.getElem?_eq_some_iff.1 hpb7).1
                clear hpb hP7 hpb7
                go_wp2_with fail
                refine ((HW2).out _).mono ?_
                rintro e w8 ⟨hb8, rfl⟩
                have HP8 := Hid.mk (HP7.out.low hb8)
                obtain ⟨c0, c1, c2, c3, c4, c5, c6, f0, f1, f2, f3, f4, f5, f6⟩ := box7_cells HP8.out.res
                have HX := Hid.mk HP8.out.res
                have HB := Hid.mk HP8.out.bel
                clear hb8
                unfold bad5 ans5
                go_wp2_with fail
                (try simp only [Exit.inBlock, Exit.then])
                generalize hz7 : (((((((w8.setCell ⟨w.heap.size, 0, none⟩ (.int .i64 0)).setCell ⟨w.heap.size, 1, none⟩ (.string ⟨#[]⟩)).setCell ⟨w.heap.size, 2, none⟩ (.string ⟨#[]⟩)).setCell ⟨w.heap.size, 3, none⟩ (.slice none 0 0)).setCell ⟨w.heap.size, 4, none⟩ (.slice none 0 0)).setCell ⟨w.heap.size, 5, none⟩ (.int .i64 (pa : Int))).setCell ⟨w.heap.size, 6, none⟩ (.int .i64 51)) = wz
                obtain ⟨e7, k7, s7⟩ := rbox_set7 w8 _ _ _ _ _ _ _ _ _ _ _ _ _ _ _ _ HX.out wz hz7.symm
                obtain ⟨d0, d1, d2, d3, d4, d5, d6, _⟩ := box7_cells e7
                have hbz : Below w.heap.size w wz := by rw [← hz7]; exact ((((((HB.out.setCell (p := ⟨w.heap.size, 0, none⟩) (by show w.heap.size ≤ w.heap.size; omega) _).setCell (p := ⟨w.heap.size, 1, none⟩) (by show w.heap.size ≤ w.heap.size; omega) _).setCell (p := ⟨w.heap.size, 2, none⟩) (by show w.heap.size ≤ w.heap.size; omega) _).setCell (p := ⟨w.heap.size, 3, none⟩) (by show w.heap.size ≤ w.heap.size; omega) _).setCell (p := ⟨w.heap.size, 4, none⟩) (by show w.heap.size ≤ w.heap.size; omega) _).setCell (p := ⟨w.heap.size, 5, none⟩) (by show w.heap.size ≤ w.heap.size; omega) _).setCell (p := ⟨w.heap.size, 6, none⟩) (by show w.heap.size ≤ w.heap.size; omega) _
                refine bodyPost_ret (v := .agg #[.int .i64 0, .string ⟨#[]⟩, .string ⟨#[]⟩, .slice none 0 0, .slice none 0 0, .int .i64 (pa : Int), .int .i64 51]) (by simp [results, Tryz.results48, go_sem, d0, d1, d2, d3, d4, d5, d6]) rfl ?_
                exact ⟨hbz, by rw [← HRR.out]; exact ⟨by omega, rfl⟩⟩
          · clear hnx
            have HRR : Hid (Rd.bad er q' = R) := by
              show _ = _
              rw [← HG2.out, loopL, h1]
            have HE := Hid.mk h2
            clear h1 HG2 h2
            rcases hc with ⟨hc0, rfl⟩ | ⟨rfl, rfl, rfl⟩
            · have hn1 : (((er : Nat) : Int) == 0) = false := by rw [beq_eq_false_iff_ne]; omega
              have hm1 : ¬ ((er : Nat) : Int) = 0 := by omega
              have HW2 : Hid (∀ u, Calls Tryz.prog 46 #[.agg #[.int .u8 (sg : Int), .int .i64 (q' : Int), .int .i64 (z' : Int), .string ⟨#[]⟩, .int .i64 (er : Int)]] u fun e w' => Below u.heap.size u w' ∧ e = .returned (bad5 q' er)) := fun u => by
                have hw := HWr.out sg q' z' [] er u
                rw [if_neg hc0] at hw
                exact hw
              clear hc0
              unfold pc5
              obtain ⟨y0, y1, y2, y3, y4, hpb⟩ := HP6.out.pb
              obtain ⟨p0, p1', p2', p3', p4', pf0, pf1, pf2, pf3, pf4⟩ := vbox_cells hpb
              obtain ⟨W7, hW7⟩ : ∃ W7, (((((w6.setCell ⟨w1.heap.size, 0, none⟩ (.int .u8 (sg : Int))).setCell ⟨w1.heap.size, 1, none⟩ (.int .i64 (q' : Int))).setCell ⟨w1.heap.size, 2, none⟩ (.int .i64 (z' : Int))).setCell ⟨w1.heap.size, 3, none⟩ (.string ⟨#[]⟩)).setCell ⟨w1.heap.size, 4, none⟩ (.int .i64 (er : Int))) = W7 := ⟨_, rfl⟩
              obtain ⟨hP7, hpb7⟩ := HP6.out.pset _ _ _ _ _ W7 hW7.symm
              obtain ⟨r0, r1, r2, r3, r4, _, _, _, _, _⟩ := vbox_cells hpb7
              have HP7 := Hid.mk hP7
              have hl7 : w1.heap.size < W7.heap.size := (Array.getElem?_eq_some_iff.1 hpb7).1
              clear hpb hP7 hpb7
              go_wp2_with fail
              refine ((HW2).out _).mono ?_
              rintro e w8 ⟨hb8, rfl⟩
              have HP8 := Hid.mk (HP7.out.low hb8)
              obtain ⟨c0, c1, c2, c3, c4, c5, c6, f0, f1, f2, f3, f4, f5, f6⟩ := box7_cells HP8.out.res
              have HX := Hid.mk HP8.out.res
              have HB := Hid.mk HP8.out.bel
              clear hb8
              unfold bad5 ans5
              go_wp2_with fail
              (try simp only [Exit.inBlock, Exit.then])
              generalize hz7 : (((((((w8.setCell ⟨w.heap.size, 0, none⟩ (.int .i64 0)).setCell ⟨w.heap.size, 1, none⟩ (.string ⟨#[]⟩)).setCell ⟨w.heap.size, 2, none⟩ (.string ⟨#[]⟩)).setCell ⟨w.heap.size, 3, none⟩ (.slice none 0 0)).setCell ⟨w.heap.size, 4, none⟩ (.slice none 0 0)).setCell ⟨w.heap.size, 5, none⟩ (.int .i64 (q' : Int))).setCell ⟨w.heap.size, 6, none⟩ (.int .i64 (er : Int))) = wz
              obtain ⟨e7, k7, s7⟩ := rbox_set7 w8 _ _ _ _ _ _ _ _ _ _ _ _ _ _ _ _ HX.out wz hz7.symm
              obtain ⟨d0, d1, d2, d3, d4, d5, d6, _⟩ := box7_cells e7
              have hbz : Below w.heap.size w wz := by rw [← hz7]; exact ((((((HB.out.setCell (p := ⟨w.heap.size, 0, none⟩) (by show w.heap.size ≤ w.heap.size; omega) _).setCell (p := ⟨w.heap.size, 1, none⟩) (by show w.heap.size ≤ w.heap.size; omega) _).setCell (p := ⟨w.heap.size, 2, none⟩) (by show w.heap.size ≤ w.heap.size; omega) _).setCell (p := ⟨w.heap.size, 3, none⟩) (by show w.heap.size ≤ w.heap.size; omega) _).setCell (p := ⟨w.heap.size, 4, none⟩) (by show w.heap.size ≤ w.heap.size; omega) _).setCell (p := ⟨w.heap.size, 5, none⟩) (by show w.heap.size ≤ w.heap.size; omega) _).setCell (p := ⟨w.heap.size, 6, none⟩) (by show w.heap.size ≤ w.heap.size; omega) _
              refine bodyPost_ret (v := .agg #[.int .i64 0, .string ⟨#[]⟩, .string ⟨#[]⟩, .slice none 0 0, .slice none 0 0, .int .i64 (q' : Int), .int .i64 (er : Int)]) (by simp [results, Tryz.results48, go_sem, d0, d1, d2, d3, d4, d5, d6]) rfl ?_
              exact ⟨hbz, by rw [← HRR.out]; exact ⟨HE.out, rfl⟩⟩
            · have HW2 : Hid (∀ u, Calls Tryz.prog 46 #[.agg #[.int .u8 36, .int .i64 (q' : Int), .int .i64 (z' : Int), .string ⟨#[]⟩, .int .i64 0]] u fun e w' => Below u.heap.size u w' ∧ e = .returned (bad5 q' 50)) := fun u => by
                have hw := HWr.out 36 q' z' [] 0 u
                rw [if_pos rfl, if_pos rfl] at hw
                exact hw
              unfold pc5
              obtain ⟨y0, y1, y2, y3, y4, hpb⟩ := HP6.out.pb
              obtain ⟨p0, p1', p2', p3', p4', pf0, pf1, pf2, pf3, pf4⟩ := vbox_cells hpb
              obtain ⟨W7, hW7⟩ : ∃ W7, (((((w6.setCell ⟨w1.heap.size, 0, none⟩ (.int .u8 36)).setCell ⟨w1.heap.size, 1, none⟩ (.int .i64 (q' : Int))).setCell ⟨w1.heap.size, 2, none⟩ (.int .i64 (z' : Int))).setCell ⟨w1.heap.size, 3, none⟩ (.string ⟨#[]⟩)).setCell ⟨w1.heap.size, 4, none⟩ (.int .i64 0)) = W7 := ⟨_, rfl⟩
              obtain ⟨hP7, hpb7⟩ := HP6.out.pset _ _ _ _ _ W7 hW7.symm
              obtain ⟨r0, r1, r2, r3, r4, _, _, _, _, _⟩ := vbox_cells hpb7
              have HP7 := Hid.mk hP7
              have hl7 : w1.heap.size < W7.heap.size := (Array.getElem?_eq_some_iff.1 hpb7).1
              clear hpb hP7 hpb7
              go_wp2_with fail
              refine ((HW2).out _).mono ?_
              rintro e w8 ⟨hb8, rfl⟩
              have HP8 := Hid.mk (HP7.out.low hb8)
              obtain ⟨c0, c1, c2, c3, c4, c5, c6, f0, f1, f2, f3, f4, f5, f6⟩ := box7_cells HP8.out.res
              have HX := Hid.mk HP8.out.res
              have HB := Hid.mk HP8.out.bel
              clear hb8
              unfold bad5 ans5
              go_wp2_with fail
              (try simp only [Exit.inBlock, Exit.then])
              generalize hz7 : (((((((w8.setCell ⟨w.heap.size, 0, none⟩ (.int .i64 0)).setCell ⟨w.heap.size, 1, none⟩ (.string ⟨#[]⟩)).setCell ⟨w.heap.size, 2, none⟩ (.string ⟨#[]⟩)).setCell ⟨w.heap.size, 3, none⟩ (.slice none 0 0)).setCell ⟨w.heap.size, 4, none⟩ (.slice none 0 0)).setCell ⟨w.heap.size, 5, none⟩ (.int .i64 (q' : Int))).setCell ⟨w.heap.size, 6, none⟩ (.int .i64 50)) = wz
              obtain ⟨e7, k7, s7⟩ := rbox_set7 w8 _ _ _ _ _ _ _ _ _ _ _ _ _ _ _ _ HX.out wz hz7.symm
              obtain ⟨d0, d1, d2, d3, d4, d5, d6, _⟩ := box7_cells e7
              have hbz : Below w.heap.size w wz := by rw [← hz7]; exact ((((((HB.out.setCell (p := ⟨w.heap.size, 0, none⟩) (by show w.heap.size ≤ w.heap.size; omega) _).setCell (p := ⟨w.heap.size, 1, none⟩) (by show w.heap.size ≤ w.heap.size; omega) _).setCell (p := ⟨w.heap.size, 2, none⟩) (by show w.heap.size ≤ w.heap.size; omega) _).setCell (p := ⟨w.heap.size, 3, none⟩) (by show w.heap.size ≤ w.heap.size; omega) _).setCell (p := ⟨w.heap.size, 4, none⟩) (by show w.heap.size ≤ w.heap.size; omega) _).setCell (p := ⟨w.heap.size, 5, none⟩) (by show w.heap.size ≤ w.heap.size; omega) _).setCell (p := ⟨w.heap.size, 6, none⟩) (by show w.heap.size ≤ w.heap.size; omega) _
              refine bodyPost_ret (v := .agg #[.int .i64 0, .string ⟨#[]⟩, .string ⟨#[]⟩, .slice none 0 0, .slice none 0 0, .int .i64 (q' : Int), .int .i64 50]) (by simp [results, Tryz.results48, go_sem, d0, d1, d2, d3, d4, d5, d6]) rfl ?_
              exact ⟨hbz, by rw [← HRR.out]; exact ⟨by omega, rfl⟩⟩
end Go.Proofs.YtcbngdkekdhfeaaGreatDoor
