import Derived.Test.YtdehejadiofomaaGreatDoorM19
import Derived.Test.YtdehejadiofomaaGreatDoorM37
namespace Go.Proofs.YtdehejadiofomaaGreatDoor
open Go.RowKit
set_option linter.unusedVariables false
set_option linter.unusedSimpArgs false
attribute [local go_sem] Oper.semAt_some

/-- the text of a mark -/
def wbK (k i : Nat) : ByteArray := ⟨#[35, UInt8.ofNat k, UInt8.ofNat (k / 256), UInt8.ofNat (k / 65536), 46, UInt8.ofNat (i % 256), UInt8.ofNat (i / 256 % 256), UInt8.ofNat (i / 65536 % 256)]⟩
theorem u8_small {n : Nat} (h : n < 256) : (((UInt8.ofNat n).toNat : Nat) : Int) = (n : Int) := by
  rw [UInt8.toNat_ofNat']; omega
theorem conv8 (k i : Nat) (w : World) (hk : k ≤ 255) : (convert 85 9 (.slice (some ⟨w.heap.size, 0, none⟩) 8 8)).run Tryz.prog (w.alloc (.cells #[.int .u8 35, .int .u8 (k : Int), .int .u8 ((k : Int) / 256), .int .u8 ((k : Int) / 65536), .int .u8 46, .int .u8 ((i : Int) % 256), .int .u8 ((i : Int) / 256 % 256), .int .u8 ((i : Int) / 65536 % 256)] 5)) = .ok (.string (wbK k i)) (w.alloc (.cells #[.int .u8 35, .int .u8 (k : Int), .int .u8 ((k : Int) / 256), .int .u8 ((k : Int) / 65536), .int .u8 46, .int .u8 ((i : Int) % 256), .int .u8 ((i : Int) / 256 % 256), .int .u8 ((i : Int) / 65536 % 256)] 5)) := by
  have e1 : (k : Int) = (((UInt8.ofNat k).toNat : Nat) : Int) := (u8_small (by omega)).symm
  have e2 : (k : Int) / 256 = (((UInt8.ofNat (k / 256)).toNat : Nat) : Int) := by rw [u8_small (by omega)]; omega
  have e3 : (k : Int) / 65536 = (((UInt8.ofNat (k / 65536)).toNat : Nat) : Int) := by rw [u8_small (by omega)]; omega
  have e4 : (i : Int) % 256 = (((UInt8.ofNat (i % 256)).toNat : Nat) : Int) := by rw [u8_small (by omega)]; omega
  have e5 : (i : Int) / 256 % 256 = (((UInt8.ofNat (i / 256 % 256)).toNat : Nat) : Int) := by rw [u8_small (by omega)]; omega
  have e6 : (i : Int) / 65536 % 256 = (((UInt8.ofNat (i / 65536 % 256)).toNat : Nat) : Int) := by rw [u8_small (by omega)]; omega
  rw [e2, e3, e4, e5, e6]
  generalize hk' : (k : Int) = kk
  rw [hk'] at e1
  rw [e1]
  unfold wbK
  generalize UInt8.ofNat k = c1
  generalize UInt8.ofNat (k / 256) = c2
  generalize UInt8.ofNat (k / 65536) = c3
  generalize UInt8.ofNat (i % 256) = c4
  generalize UInt8.ofNat (i / 256 % 256) = c5
  generalize UInt8.ofNat (i / 65536 % 256) = c6
  have h := run_convert_bytes_back (P := Tryz.prog) (w.alloc (.cells #[.int .u8 35, .int .u8 (c1.toNat : Int), .int .u8 (c2.toNat : Int), .int .u8 (c3.toNat : Int), .int .u8 46, .int .u8 (c4.toNat : Int), .int .u8 (c5.toNat : Int), .int .u8 (c6.toNat : Int)] 5)) 85 9 5 ⟨w.heap.size, 0, none⟩ 8 [35, c1, c2, c3, 46, c4, c5, c6] Tryz.underlying85 Tryz.underlying5 Tryz.underlying9 (by
    intro j hj
    have hj6 : j < 8 := hj
    rcases (show j = 0 ∨ j = 1 ∨ j = 2 ∨ j = 3 ∨ j = 4 ∨ j = 5 ∨ j = 6 ∨ j = 7 by omega) with rfl | rfl | rfl | rfl | rfl | rfl | rfl | rfl <;> simp [Addr.add, go_sem])
  exact h

set_option maxRecDepth 100000 in
set_option maxHeartbeats 1600000 in
theorem w_kword (k i : Nat) (w : World) (hk : k ≤ 255) (hi : i ≤ 4294967296) :
    Calls Tryz.prog 75 #[.int .i64 (k : Int), .int .i64 (i : Int)] w fun e w' => e = .returned (.string (wbK k i)) ∧ Below w.heap.size w w' := by
  have hcv := conv8 k i w hk
  have HB := Hid.mk (below1 w (.cells #[.int .u8 35, .int .u8 (k : Int), .int .u8 ((k : Int) / 256), .int .u8 ((k : Int) / 65536), .int .u8 46, .int .u8 ((i : Int) % 256), .int .u8 ((i : Int) / 256 % 256), .int .u8 ((i : Int) / 65536 % 256)] 5))
  have h0 : (0 : Int) ≤ (k : Int) := by omega
  have h1 : (k : Int) ≤ 255 := by omega
  have h2 : (0 : Int) ≤ (i : Int) := by omega
  have h3 : (i : Int) ≤ 4294967296 := by omega
  go_enter Tryz.func75, Tryz.ntmps75
  go_wp2_with fail
  go_ret
  exact ⟨rfl, HB.out⟩

/-- a mark -/
def mkA (k i : Nat) : Value := .agg #[.int .i64 (-10 - (k : Int)), .int .i64 0, .int .i64 0, .string (wbK k i)]
set_option maxRecDepth 100000 in
set_option maxHeartbeats 1600000 in
theorem w_markTokens (k i : Nat) (w : World) (hk : k ≤ 255) (hi : i ≤ 4294967296) :
    Calls Tryz.prog 42 #[.int .i64 (k : Int), .int .i64 (i : Int)] w fun e w' => e = .returned (mkA k i) ∧ Below w.heap.size w w' := by
  have HW := Hid.mk (fun u => w_kword k i u hk hi)
  have h0 : (0 : Int) ≤ (k : Int) := by omega
  have h1 : (k : Int) ≤ 255 := by omega
  unfold mkA
  generalize wbK k i = B at *
  go_enter Tryz.func42, Tryz.ntmps42
  go_wp2_with fail
  refine (HW.out _).mono ?_
  rintro e w1 ⟨rfl, hb1⟩
  have hbx := tbox1 hb1
  have HB1 := Hid.mk hbx.2
  obtain ⟨hc0, hc1, hc2, hc3, hf0, hf1, hf2, hf3⟩ := tbox_cells hbx.1
  have HX := Hid.mk hbx.1
  clear hb1 hbx
  go_wp2_with fail
  (try simp only [Exit.inBlock, Exit.then])
  generalize hz : ((((w1).setCell ⟨w.heap.size, 0, none⟩ (.int .i64 (-10 - (k : Int)))).setCell ⟨w.heap.size, 1, none⟩ (.int .i64 0)).setCell ⟨w.heap.size, 2, none⟩ (.int .i64 0)).setCell ⟨w.heap.size, 3, none⟩ (.string B) = wz
  obtain ⟨z1, z2, z3, z4⟩ := box_set4 _ _ _ _ _ _ _ _ _ _ _ HX.out wz hz.symm
  obtain ⟨hd0, hd1, hd2, hd3, _⟩ := tbox_cells z1
  refine bodyPost_ret (v := .agg #[.int .i64 (-10 - (k : Int)), .int .i64 0, .int .i64 0, .string B]) (by simp [results, Tryz.results42, go_sem, hd0, hd1, hd2, hd3]) rfl ?_
  exact ⟨rfl, HB1.out.trans (z4 _ (Nat.le_refl _))⟩

set_option maxRecDepth 100000 in
set_option maxHeartbeats 1600000 in
theorem w_SameMark (kd : Int) (tb : ByteArray) (w : World) : Calls Tryz.prog 12 #[.agg #[.int .i64 kd, .int .i64 0, .int .i64 0, .string tb], .agg #[.int .i64 kd, .int .i64 0, .int .i64 0, .string tb]] w fun e w' => e = .returned (.bool true) ∧ Below w.heap.size w w' := by
  have h1 : (kd == kd) = true := by simp
  have h4 : (tb.toList == tb.toList) = true := by simp
  have HB := Hid.mk ((below1 w (.cells #[.int .i64 kd, .int .i64 0, .int .i64 0, .string tb] 52)).alloc (by simp) (.cells #[.int .i64 kd, .int .i64 0, .int .i64 0, .string tb] 52))
  go_enter Tryz.func12, Tryz.ntmps12
  go_wp2_with fail
  go_ret
  exact ⟨rfl, HB.out⟩

set_option maxRecDepth 100000 in
set_option maxHeartbeats 1600000 in
theorem w_bToken (p v0 v1 v2 v3 : Value) (w : World) : Calls Tryz.prog 13 #[p, .agg #[v0, v1, v2, v3]] w fun e w' => (∃ v, e = .returned v) ∧ Below w.heap.size w w' := by
  have HB := Hid.mk (below1 w (.cells #[v0, v1, v2, v3] 52))
  go_enter Tryz.func13, Tryz.ntmps13
  go_wp2_with fail
  first | go_ret | go_ret2 | go_end0
  exact ⟨⟨_, rfl⟩, HB.out⟩
end Go.Proofs.YtdehejadiofomaaGreatDoor
namespace Go.Proofs.YtdehejadiofomaaGreatDoor
open Go.RowKit Go.Shelf
set_option linter.unusedVariables false
set_option linter.unusedSimpArgs false
attribute [local go_sem] Oper.semAt_some

theorem Tryz.infoToks : (Tryz.prog.info? 22).map (fun i => (i.zero, i.size, i.bytes)) = some (some (.slice none 0 0), 1, 24) := by kernel_rfl
/-- the book: its tokens alone -/
def BkAt (W : World) (gb : Nat) (v : Value) : Prop := W.heap[gb]? = some (.cells #[.slice none 0 0, .slice none 0 0, .slice none 0 0, .slice none 0 0, .slice none 0 0, v, .slice none 0 0, .slice none 0 0, .slice none 0 0, .slice none 0 0, .slice none 0 0, .slice none 0 0, .slice none 0 0, .slice none 0 0, .slice none 0 0, .slice none 0 0] 44 (0, 0))
theorem own_typeT {w : World} {B : Nat} {e t : TypeId} {size : Nat} {v : Value} {n : Nat} {xs : List Value} {g : Nat} {cs : Array Value} {f : Nat × Nat} (h : w.ownsRow B e size v n xs) (hg : w.heap[g]? = some (.cells cs t f)) (ht : t ≠ e) : v.ownBlock ≠ some g := by
  intro hb
  rcases h.2 with ⟨rfl, _⟩ | ⟨g', cap, cur, rfl, e2, e3, _⟩
  · cases hb
  · simp [Value.ownBlock] at hb
    subst hb
    rw [hg] at e3
    simp at e3
    exact ht e3.2.1
/-- what laying a list down keeps -/
structure Laid (W W' : World) (gb : Nat) (row : Option Nat) : Prop where
  size : W.heap.size ≤ W'.heap.size
  block : ∀ b, b < W.heap.size → b ≠ gb → row ≠ some b → W'.heap[b]? = W.heap[b]?

set_option maxRecDepth 100000 in
set_option maxHeartbeats 3200000 in
theorem w_bTokens (B gb m gc : Nat) (go : Option Addr) (vs : List Value) (so : Option Addr) (sc : Nat) (ts : List Tok) (W : World)
    (hbk : BkAt W gb (.slice go m gc)) (hrow : W.ownsRow B 22 1 (.slice go m gc) m vs) (hB : B ≤ gb) (hm : m ≤ 255) (hn : ts.length ≤ 1048576) (hsc : ts.length ≤ sc)
    (ht : TRow W so ts) (hso : ∀ b o f, so = some ⟨b, o, f⟩ → b ≠ gb ∧ (Value.slice go m gc).ownBlock ≠ some b) :
    Calls Tryz.prog 7 #[.pointer (some ⟨gb, 0, none⟩), .slice so ts.length sc] W fun e W' => (∃ v, e = .returned v) ∧ (∃ go' gc', BkAt W' gb (.slice go' (m + 1) gc') ∧ W'.ownsRow B 22 1 (.slice go' (m + 1) gc') (m + 1) (vs ++ [.slice so ts.length sc])) ∧ Laid W W' gb (Value.slice go m gc).ownBlock ∧ Below B W W' := by
  obtain ⟨i0, hi0, hz0, hz1, hz2⟩ := info_parts Tryz.infoToks
  obtain ⟨N, hN⟩ : ∃ N, ts.length = N := ⟨_, rfl⟩
  rw [hN] at hn hsc ⊢
  have HN := Hid.mk hN
  have HT := Hid.mk ht
  have HSO := Hid.mk hso
  have HBK := Hid.mk hbk
  have c5 : W.cell? ⟨gb, 5, none⟩ = some (.slice go m gc) := by rw [cell_of_row _ _ 5 _ _ _ hbk]; rfl
  have hgl : gb < W.heap.size := (Array.getElem?_eq_some_iff.1 hbk).1
  clear hN ht hso hbk
  go_enter Tryz.func7, Tryz.ntmps7
  go_wp2_with (at_builtin; go_loud (refine wpList_append_own _ rfl _ _ 32 rfl B 22 i0 (.slice none 0 0) 1 24 Tryz.underlying32 hi0 hz0 hz1 hz2 rfl (by decide) _ _ _ rfl (hrow.alloc _) ⟨W.heap.size, 0, none⟩ 1 1 [.slice so N sc] rfl rfl (World.news_of_block (cs := #[.slice so N sc]) (t := 22) (fr := (0, 0)) (heap_alloc_new W _)) (by intro u hu; simp at hu; subst hu; rfl) (by unfold maxLen; omega) (by omega) (by simp; omega) ?_))
  intro v' w5 hown' hgrow _
  obtain ⟨g', cap', rfl⟩ := ownsRow_succ hown'
  have hgs := hgrow.size
  simp at hgs
  have hob : (Value.slice go m gc).ownBlock ≠ some gb := own_typeT hrow HBK.out (by decide)
  have hbk5 : BkAt w5 gb (.slice go m gc) := (hgrow.block gb (by simp; omega) (fun e => hob e.symm)).trans ((Below.heap_alloc _ _ _ (by omega)).trans HBK.out)
  have e5 : w5.cell? ⟨gb, 5, none⟩ = some (.slice go m gc) := by rw [cell_of_row _ _ 5 _ _ _ hbk5]; rfl
  have f5 : w5.frozen? ⟨gb, 5, none⟩ = false := frozen_rowT (j := 5) hbk5
  obtain ⟨w6, hw6⟩ : ∃ w6, w5.setCell ⟨gb, 5, none⟩ (.slice (some ⟨g', 0, none⟩) (m + 1) cap') = w6 := ⟨_, rfl⟩
  have HBK6 : Hid (BkAt w6 gb (.slice (some ⟨g', 0, none⟩) (m + 1) cap')) := by rw [← hw6]; exact heap_setCell_same w5 gb 5 _ _ _ hbk5
  have HOW6 : Hid (w6.ownsRow B 22 1 (.slice (some ⟨g', 0, none⟩) (m + 1) cap') (m + 1) (vs ++ [.slice so N sc])) := by rw [← hw6]; exact own_setT hown' (own_typeT hown' hbk5 (by decide))
  have HLD6 : Hid (Laid W w6 gb (Value.slice go m gc).ownBlock) := by
    rw [← hw6]
    refine ⟨by rw [World.size_setCell]; omega, fun b hb h1 h2 => ?_⟩
    exact (Below.heap_setCell _ _ _ _ h1).trans ((hgrow.block b (by simp; omega) (fun e => h2 e.symm)).trans (Below.heap_alloc _ _ _ (by omega)))
  have HBW6 : Hid (Below B W w6) := by
    rw [← hw6]
    exact ((((Below.refl B W).alloc (by omega) _).grown hgrow (by simp; omega) (fun r e => own_baseT hrow e))).setCell (p := ⟨gb, 5, none⟩) hB _
  have HT6 : Hid (TRow w6 so ts) := fun i hi => by
    obtain ⟨g, off, e, hg, a0, a1, a2, a3⟩ := HT.out i hi
    obtain ⟨h1, h2⟩ := HSO.out g off none e
    have hh := HLD6.out.block g hg h1 h2
    refine ⟨g, off, e, Nat.lt_of_lt_of_le hg HLD6.out.size, ?_, ?_, ?_, ?_⟩
    · rw [← a0]; unfold World.cell?; rw [hh]
    · rw [← a1]; unfold World.cell?; rw [hh]
    · rw [← a2]; unfold World.cell?; rw [hh]
    · rw [← a3]; unfold World.cell?; rw [hh]
  have HSZ : Hid (B ≤ w6.heap.size) := Nat.le_trans hB (Nat.le_of_lt (Array.getElem?_eq_some_iff.1 HBK6.out).1)
  clear hown' hgrow hob hbk5 HBK
  go_wp2_with fail
  (try rw [hw6])
  clear hw6 e5 f5 c5
  go_loopw [4] (fun i wr => ∃ k : Nat, k ≤ N ∧ i = .int .i64 (k : Int) ∧ Hid (Below w6.heap.size w6 wr)) (fun i _ => N - (intOf i).toNat)
  case atStart => exact ⟨0, Nat.zero_le _, rfl, Below.refl _ _⟩
  case round =>
    obtain ⟨k, hk, rfl, HW⟩ := hrel
    by_cases hlt : k < N
    · have hi1 : (k : Int) < (N : Int) := by omega
      have hi0' : (0 : Int) ≤ (k : Int) := by omega
      have hk2 : k < ts.length := by rw [HN.out]; exact hlt
      obtain ⟨g, off, rfl, hg, a0, a1, a2, a3⟩ := (HT6.out.keep HW.out) k hk2
      generalize ts[k] = t at *
      obtain ⟨kd, pa, fi, tx, er⟩ := t
      dsimp only at a0 a1 a2 a3
      clear hk2
      go_wp2_with fail
      refine (w_bToken _ _ _ _ _ _).mono ?_
      rintro e w7 ⟨⟨v7, rfl⟩, hb7⟩
      have HW7 := Hid.mk (HW.out.trans (hb7.mono HW.out.size))
      clear hb7
      go_wp2_with fail
      go_roundw
      case rel => exact ⟨k + 1, by omega, by go_num, HW7⟩
      case measure => simp [intOf]; omega
    · have hi1 : ¬ (k : Int) < (N : Int) := by omega
      go_wp2_with fail
      first | go_ret | go_ret2 | go_end0
      have hb := HW.out
      refine ⟨⟨_, rfl⟩, ⟨some ⟨g', 0, none⟩, cap', heap_lowT hb (Array.getElem?_eq_some_iff.1 HBK6.out).1 HBK6.out, below_row hb HOW6.out⟩, ⟨Nat.le_trans HLD6.out.size hb.size, fun b h0 h1 h2 => (hb.block b (Nat.lt_of_lt_of_le h0 HLD6.out.size)).trans (HLD6.out.block b h0 h1 h2)⟩, HBW6.out.trans (hb.mono HSZ.out)⟩
end Go.Proofs.YtdehejadiofomaaGreatDoor
