import Derived.Test.YtohclfgghobldaaGreatDoorM27
namespace Go.Proofs.YtohclfgghobldaaGreatDoor
open Go.RowKit
set_option linter.unusedVariables false
set_option linter.unusedSimpArgs false
attribute [local go_sem] Oper.semAt_some

theorem own_baseT {w : World} {base : Nat} {e : TypeId} {size : Nat} {v : Value} {n : Nat} {xs : List Value} (h : w.ownsRow base e size v n xs) {g : Nat} (hg : v.ownBlock = some g) : base ≤ g := by
  rcases h.2 with ⟨rfl, _⟩ | ⟨g', cap, cur, rfl, e2, e3, _⟩
  · cases hg
  · simp [Value.ownBlock] at hg
    subst hg
    exact e2

/-- the text of a mark -/
def wbK (k i : Nat) : ByteArray := ⟨#[35, UInt8.ofNat k, UInt8.ofNat (k / 256), UInt8.ofNat (k / 65536), 46, UInt8.ofNat (i % 256), UInt8.ofNat (i / 256 % 256), UInt8.ofNat (i / 65536 % 256)]⟩
theorem u8_small {n : Nat} (h : n < 256) : (((UInt8.ofNat n).toNat : Nat) : Int) = (n : Int) := by
  rw [UInt8.toNat_ofNat']; omega
theorem conv8 (k i : Nat) (w : World) (hk : k ≤ 255) : (convert 81 9 (.slice (some ⟨w.heap.size, 0, none⟩) 8 8)).run Tryz.prog (w.alloc (.cells #[.int .u8 35, .int .u8 (k : Int), .int .u8 ((k : Int) / 256), .int .u8 ((k : Int) / 65536), .int .u8 46, .int .u8 ((i : Int) % 256), .int .u8 ((i : Int) / 256 % 256), .int .u8 ((i : Int) / 65536 % 256)] 5)) = .ok (.string (wbK k i)) (w.alloc (.cells #[.int .u8 35, .int .u8 (k : Int), .int .u8 ((k : Int) / 256), .int .u8 ((k : Int) / 65536), .int .u8 46, .int .u8 ((i : Int) % 256), .int .u8 ((i : Int) / 256 % 256), .int .u8 ((i : Int) / 65536 % 256)] 5)) := by
  have e1 : (k : Int) = (((UInt8.ofNat k).toNat : Nat) : Int) := (u8_small (by omega)).symm
  have e2 : (k : Int) / 256 = (((UInt8.ofNat (k / 256)).toNat : Nat) : Int) := by rw [u8_small (by omega)]; omega
  have e3 : (k : Int) / 65536 = (((UInt8.ofNat (k / 65536)).toNat : Nat) : Int) := by rw [u8_small (by omega)]; omega
  have e4 : (i : Int) % 256 = (((UInt8.ofNat (i % 256)).toNat : Nat) : Int) := by rw [u8_small (by omega)]; omega
  have e5 : (i : Int) / 256 % 256 = (((UInt8.ofNat (i / 256 % 256)).toNat : Nat) : Int) := by rw [u8_small (by omega)]; omega
  have e6 : (i : Int) / 65536 % 256 = (((UInt8.ofNat (i / 65536 % 256)).toNat : Nat) : Int) := by rw [u8_small (by omega)]; omega
  rw [e2, e3, e4, e5, e6]
  generalize hk' : (k : Int) = kk
  rw [hk'] at e1
  rw [e1]
  unfold wbK
  generalize UInt8.ofNat k = c1
  generalize UInt8.ofNat (k / 256) = c2
  generalize UInt8.ofNat (k / 65536) = c3
  generalize UInt8.ofNat (i % 256) = c4
  generalize UInt8.ofNat (i / 256 % 256) = c5
  generalize UInt8.ofNat (i / 65536 % 256) = c6
  have h := run_convert_bytes_back (P := Tryz.prog) (w.alloc (.cells #[.int .u8 35, .int .u8 (c1.toNat : Int), .int .u8 (c2.toNat : Int), .int .u8 (c3.toNat : Int), .int .u8 46, .int .u8 (c4.toNat : Int), .int .u8 (c5.toNat : Int), .int .u8 (c6.toNat : Int)] 5)) 81 9 5 ⟨w.heap.size, 0, none⟩ 8 [35, c1, c2, c3, 46, c4, c5, c6] Tryz.underlying81 Tryz.underlying5 Tryz.underlying9 (by
    intro j hj
    have hj6 : j < 8 := hj
    rcases (show j = 0 ∨ j = 1 ∨ j = 2 ∨ j = 3 ∨ j = 4 ∨ j = 5 ∨ j = 6 ∨ j = 7 by omega) with rfl | rfl | rfl | rfl | rfl | rfl | rfl | rfl <;> simp [Addr.add, go_sem])
  exact h

set_option maxRecDepth 100000 in
set_option maxHeartbeats 1600000 in
theorem w_kword (k i : Nat) (w : World) (hk : k ≤ 255) (hi : i ≤ 4294967296) :
    Calls Tryz.prog 105 #[.int .i64 (k : Int), .int .i64 (i : Int)] w fun e w' => e = .returned (.string (wbK k i)) ∧ Below w.heap.size w w' := by
  have hcv := conv8 k i w hk
  have HB := Hid.mk (below1 w (.cells #[.int .u8 35, .int .u8 (k : Int), .int .u8 ((k : Int) / 256), .int .u8 ((k : Int) / 65536), .int .u8 46, .int .u8 ((i : Int) % 256), .int .u8 ((i : Int) / 256 % 256), .int .u8 ((i : Int) / 65536 % 256)] 5))
  have h0 : (0 : Int) ≤ (k : Int) := by omega
  have h1 : (k : Int) ≤ 255 := by omega
  have h2 : (0 : Int) ≤ (i : Int) := by omega
  have h3 : (i : Int) ≤ 4294967296 := by omega
  go_enter Tryz.func105, Tryz.ntmps105
  go_wp2_with fail
  go_ret
  exact ⟨rfl, HB.out⟩

/-- a mark -/
def mkA (k i : Nat) : Value := .agg #[.int .i64 (-10 - (k : Int)), .int .i64 0, .int .i64 0, .string (wbK k i)]
set_option maxRecDepth 100000 in
set_option maxHeartbeats 1600000 in
theorem w_markTokens (k i : Nat) (w : World) (hk : k ≤ 255) (hi : i ≤ 4294967296) :
    Calls Tryz.prog 66 #[.int .i64 (k : Int), .int .i64 (i : Int)] w fun e w' => e = .returned (mkA k i) ∧ Below w.heap.size w w' := by
  have HW := Hid.mk (fun u => w_kword k i u hk hi)
  have h0 : (0 : Int) ≤ (k : Int) := by omega
  have h1 : (k : Int) ≤ 255 := by omega
  unfold mkA
  generalize wbK k i = B at *
  go_enter Tryz.func66, Tryz.ntmps66
  go_wp2_with fail
  refine (HW.out _).mono ?_
  rintro e w1 ⟨rfl, hb1⟩
  have hbx := tbox1 hb1
  have HB1 := Hid.mk hbx.2
  obtain ⟨hc0, hc1, hc2, hc3, hf0, hf1, hf2, hf3⟩ := tbox_cells hbx.1
  have HX := Hid.mk hbx.1
  clear hb1 hbx
  go_wp2_with fail
  (try simp only [Exit.inBlock, Exit.then])
  generalize hz : ((((w1).setCell ⟨w.heap.size, 0, none⟩ (.int .i64 (-10 - (k : Int)))).setCell ⟨w.heap.size, 1, none⟩ (.int .i64 0)).setCell ⟨w.heap.size, 2, none⟩ (.int .i64 0)).setCell ⟨w.heap.size, 3, none⟩ (.string B) = wz
  obtain ⟨z1, z2, z3, z4⟩ := box_set4 _ _ _ _ _ _ _ _ _ _ _ HX.out wz hz.symm
  obtain ⟨hd0, hd1, hd2, hd3, _⟩ := tbox_cells z1
  refine bodyPost_ret (v := .agg #[.int .i64 (-10 - (k : Int)), .int .i64 0, .int .i64 0, .string B]) (by simp [results, Tryz.results66, go_sem, hd0, hd1, hd2, hd3]) rfl ?_
  exact ⟨rfl, HB1.out.trans (z4 _ (Nat.le_refl _))⟩

set_option maxRecDepth 100000 in
set_option maxHeartbeats 1600000 in
theorem w_SameMark (kd : Int) (tb : ByteArray) (w : World) : Calls Tryz.prog 16 #[.agg #[.int .i64 kd, .int .i64 0, .int .i64 0, .string tb], .agg #[.int .i64 kd, .int .i64 0, .int .i64 0, .string tb]] w fun e w' => e = .returned (.bool true) ∧ Below w.heap.size w w' := by
  have h1 : (kd == kd) = true := by simp
  have h4 : (tb.toList == tb.toList) = true := by simp
  have HB := Hid.mk ((below1 w (.cells #[.int .i64 kd, .int .i64 0, .int .i64 0, .string tb] 54)).alloc (by simp) (.cells #[.int .i64 kd, .int .i64 0, .int .i64 0, .string tb] 54))
  go_enter Tryz.func16, Tryz.ntmps16
  go_wp2_with fail
  go_ret
  exact ⟨rfl, HB.out⟩

set_option maxRecDepth 100000 in
set_option maxHeartbeats 1600000 in
theorem w_bToken (p v0 v1 v2 v3 : Value) (w : World) : Calls Tryz.prog 17 #[p, .agg #[v0, v1, v2, v3]] w fun e w' => (∃ v, e = .returned v) ∧ Below w.heap.size w w' := by
  have HB := Hid.mk (below1 w (.cells #[v0, v1, v2, v3] 54))
  go_enter Tryz.func17, Tryz.ntmps17
  go_wp2_with fail
  first | go_ret | go_ret2 | go_end0
  exact ⟨⟨_, rfl⟩, HB.out⟩
end Go.Proofs.YtohclfgghobldaaGreatDoor
