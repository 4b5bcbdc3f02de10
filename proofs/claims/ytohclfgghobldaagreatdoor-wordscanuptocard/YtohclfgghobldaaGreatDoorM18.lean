import Derived.Test.YtohclfgghobldaaGreatDoorM17
import Derived.Shelf.Strings.SlTrimAscii
import Derived.Deep.QuietTactic
import Derived.BigQuiet
namespace Go.Proofs.YtohclfgghobldaaGreatDoor
open Go.RowKit
set_option linter.unusedVariables false
set_option linter.unusedSimpArgs false

theorem size_lst (s : ByteArray) : s.data.toList.length = s.size := by rw [Array.length_toList]; rfl
theorem extract_lst (s : ByteArray) (a b : Nat) (hb : b ≤ s.size) : (s.extract a b).data.toList = cut s.data.toList a b := by
  rw [Lib.extract_data]; rfl

theorem ascii_all {cs : List UInt8} (h : cs.all (fun b => decide (b.toNat < 128)) = true) : ∀ (j : Nat) b, cs[j]? = some b → b.toNat < 128 := fun j b hb => by
  have := List.all_eq_true.1 h b (List.mem_of_getElem? hb)
  simpa using this

/-- a token as a value -/
def tokV (t : Tok) : Value := .agg #[.int .i64 (t.kind : Int), .int .i64 (t.at_ : Int), .int .i64 (t.fin : Int), .string ⟨t.text.toArray⟩]
def TokR (t : Tok) (w w' : World) (e : Ending) : Prop := e = .returned (.tuple #[tokV t, .int .i64 (t.err : Int)]) ∧ Below w.heap.size w w'

theorem indexB_bd (l : List UInt8) (c : UInt8) : -1 ≤ Lib.indexByte l c ∧ Lib.indexByte l c < (l.length : Int) := by
  induction l with
  | nil => simp [Lib.indexByte]
  | cons x r ih =>
    unfold Lib.indexByte
    simp only [List.length_cons]
    repeat' split
    all_goals omega
theorem indexB_has (l : List UInt8) (c : UInt8) : (l.contains c = true ↔ 0 ≤ Lib.indexByte l c) := by
  induction l with
  | nil => simp [Lib.indexByte]
  | cons x r ih =>
    have hb := indexB_bd r c
    rw [List.contains_cons]
    unfold Lib.indexByte
    cases h : (x == c) with
    | true =>
      have : x = c := by simpa using h
      subst this
      simp
    | false =>
      have h2 : (c == x) = false := by
        rw [beq_eq_false_iff_ne] at h ⊢
        exact fun e => h e.symm
      rw [h2, Bool.false_or]
      simp only [Bool.false_eq_true, if_false]
      rw [ih]
      by_cases hm : Lib.indexByte r c = -1
      · rw [hm]; simp
      · have : (Lib.indexByte r c == -1) = false := by rw [beq_eq_false_iff_ne]; exact hm
        rw [this]
        simp only [Bool.false_eq_true, if_false]
        omega
theorem byte_back (b : UInt8) : ((b.toNat : Nat) : Int).toNat.toUInt8 = b := by simp
theorem getD_byte {s : ByteArray} {p : Nat} (h : p < s.size) : s.data.toList.getD p 0 = s[p] := by
  rw [← byte_eq s p h]
  have : p < s.data.toList.length := by rw [size_lst]; exact h
  rw [List.getD, List.getElem?_eq_getElem this]; rfl

theorem box_set4 (w : World) (B : Nat) (t : TypeId) (y0 y1 y2 y3 a0 a1 a2 a3 : Value) (h : w.heap[B]? = some (.cells #[y0, y1, y2, y3] t (0, 0))) (wz : World) (hz : wz = (((w.setCell ⟨B, 0, none⟩ a0).setCell ⟨B, 1, none⟩ a1).setCell ⟨B, 2, none⟩ a2).setCell ⟨B, 3, none⟩ a3) :
    wz.heap[B]? = some (.cells #[a0, a1, a2, a3] t (0, 0)) ∧ (∀ b, b ≠ B → wz.heap[b]? = w.heap[b]?) ∧ wz.heap.size = w.heap.size ∧ ∀ n, n ≤ B → Below n w wz := by
  subst hz
  refine ⟨?_, fun b hb => ?_, by simp, fun n hn => ?_⟩
  · have e : ∀ (u : World) (c : Array Value) (i : Nat) (v : Value), u.heap[B]? = some (.cells c t (0, 0)) → (u.setCell ⟨B, i, none⟩ v).heap[B]? = some (.cells (c.setIfInBounds i v) t (0, 0)) := fun u c i v hu => by
      show (u.heap.modify B _)[B]? = _
      rw [Array.getElem?_modify, if_pos rfl, hu]; rfl
    exact e _ _ 3 a3 (e _ _ 2 a2 (e _ _ 1 a1 (e _ _ 0 a0 h)))
  · rw [Below.heap_setCell _ _ _ _ hb, Below.heap_setCell _ _ _ _ hb, Below.heap_setCell _ _ _ _ hb, Below.heap_setCell _ _ _ _ hb]
  · exact ((((Below.refl n w).setCell (p := ⟨B, 0, none⟩) hn _).setCell (p := ⟨B, 1, none⟩) hn _).setCell (p := ⟨B, 2, none⟩) hn _).setCell (p := ⟨B, 3, none⟩) hn _
theorem frozen_rowT {w : World} {B j : Nat} {cs : Array Value} {t : TypeId} (h : w.heap[B]? = some (.cells cs t (0, 0))) : w.frozen? ⟨B, j, none⟩ = false := by simp [World.frozen?, h]
theorem heap_lowT {w w' : World} {n : Nat} (hb : Below n w w') {b : Nat} {o : Obj} (hlt : b < n) (h : w.heap[b]? = some o) : w'.heap[b]? = some o := (hb.block b hlt).trans h
end Go.Proofs.YtohclfgghobldaaGreatDoor
namespace Go.Proofs.YtohclfgghobldaaGreatDoor
open Go.RowKit
set_option linter.unusedVariables false
set_option linter.unusedSimpArgs false

def tbox0 : Obj := .cells #[.int .i64 0, .int .i64 0, .int .i64 0, .string ⟨#[]⟩] 54
theorem tbox1 {w w1 : World} (hb : Below (w.alloc tbox0).heap.size (w.alloc tbox0) w1) : w1.heap[w.heap.size]? = some (.cells #[.int .i64 0, .int .i64 0, .int .i64 0, .string ⟨#[]⟩] 54 (0, 0)) ∧ Below w.heap.size w w1 :=
  ⟨heap_lowT hb (by simp) (heap_alloc_new w _), (below1 w tbox0).trans (hb.mono (by simp))⟩
theorem tbox_cells {w : World} {B : Nat} {t : TypeId} {y0 y1 y2 y3 : Value} (h : w.heap[B]? = some (.cells #[y0, y1, y2, y3] t (0, 0))) :
    w.cell? ⟨B, 0, none⟩ = some y0 ∧ w.cell? ⟨B, 1, none⟩ = some y1 ∧ w.cell? ⟨B, 2, none⟩ = some y2 ∧ w.cell? ⟨B, 3, none⟩ = some y3 ∧ w.frozen? ⟨B, 0, none⟩ = false ∧ w.frozen? ⟨B, 1, none⟩ = false ∧ w.frozen? ⟨B, 2, none⟩ = false ∧ w.frozen? ⟨B, 3, none⟩ = false := by
  refine ⟨?_, ?_, ?_, ?_, frozen_rowT h, frozen_rowT h, frozen_rowT h, frozen_rowT h⟩ <;> rw [cell_of_row _ _ _ _ _ _ h] <;> rfl

theorem cut_size {s : ByteArray} {a b : Nat} (h : a ≤ b) (hb : b ≤ s.size) : (cut s.data.toList a b).length = b - a := by
  unfold cut; rw [List.length_take, List.length_drop, size_lst]; omega
theorem ext_eq (s : ByteArray) (a b : Nat) : s.extract a b = ⟨(cut s.data.toList a b).toArray⟩ := by
  have := extract_lst s a b
  apply ByteArray.ext
  apply Array.toList_inj.1
  rw [Lib.extract_data]; rfl
def bWd : ByteArray := ⟨#[97, 98, 99, 100, 101, 102, 103, 104, 105, 106, 107, 108, 109, 110, 111, 112, 113, 114, 115, 116, 117, 118, 119, 120, 121, 122, 65, 66, 67, 68, 69, 70, 71, 72, 73, 74, 75, 76, 77, 78, 79, 80, 81, 82, 83, 84, 85, 86, 87, 88, 89, 90, 95, 48, 49, 50, 51, 52, 53, 54, 55, 56, 57]⟩
def bNm : ByteArray := ⟨#[97, 98, 99, 100, 101, 102, 103, 104, 105, 106, 107, 108, 109, 110, 111, 112, 113, 114, 115, 116, 117, 118, 119, 120, 121, 122, 65, 66, 67, 68, 69, 70, 71, 72, 73, 74, 75, 76, 77, 78, 79, 80, 81, 82, 83, 84, 85, 86, 87, 88, 89, 90, 95, 48, 49, 50, 51, 52, 53, 54, 55, 56, 57, 43, 45, 46]⟩
end Go.Proofs.YtohclfgghobldaaGreatDoor
namespace Go.Proofs.YtohclfgghobldaaGreatDoor
open Go.RowKit
set_option linter.unusedVariables false
set_option linter.unusedSimpArgs false
attribute [local go_sem] Oper.semAt_some

theorem own_baseT {w : World} {base : Nat} {e : TypeId} {size : Nat} {v : Value} {n : Nat} {xs : List Value} (h : w.ownsRow base e size v n xs) {g : Nat} (hg : v.ownBlock = some g) : base ≤ g := by
  rcases h.2 with ⟨rfl, _⟩ | ⟨g', cap, cur, rfl, e2, e3, _⟩
  · cases hg
  · simp [Value.ownBlock] at hg
    subst hg
    exact e2

/-- the text of a mark -/
def wbK (k i : Nat) : ByteArray := ⟨#[35, UInt8.ofNat k, UInt8.ofNat (k / 256), UInt8.ofNat (k / 65536), 46, UInt8.ofNat (i % 256), UInt8.ofNat (i / 256 % 256), UInt8.ofNat (i / 65536 % 256)]⟩
theorem u8_small {n : Nat} (h : n < 256) : (((UInt8.ofNat n).toNat : Nat) : Int) = (n : Int) := by
  rw [UInt8.toNat_ofNat']; omega
theorem conv8 (k i : Nat) (w : World) (hk : k ≤ 255) : (convert 81 9 (.slice (some ⟨w.heap.size, 0, none⟩) 8 8)).run Tryz.prog (w.alloc (.cells #[.int .u8 35, .int .u8 (k : Int), .int .u8 ((k : Int) / 256), .int .u8 ((k : Int) / 65536), .int .u8 46, .int .u8 ((i : Int) % 256), .int .u8 ((i : Int) / 256 % 256), .int .u8 ((i : Int) / 65536 % 256)] 5)) = .ok (.string (wbK k i)) (w.alloc (.cells #[.int .u8 35, .int .u8 (k : Int), .int .u8 ((k : Int) / 256), .int .u8 ((k : Int) / 65536), .int .u8 46, .int .u8 ((i : Int) % 256), .int .u8 ((i : Int) / 256 % 256), .int .u8 ((i : Int) / 65536 % 256)] 5)) := by
  have e1 : (k : Int) = (((UInt8.ofNat k).toNat : Nat) : Int) := (u8_small (by omega)).symm
  have e2 : (k : Int) / 256 = (((UInt8.ofNat (k / 256)).toNat : Nat) : Int) := by rw [u8_small (by omega)]; omega
  have e3 : (k : Int) / 65536 = (((UInt8.ofNat (k / 65536)).toNat : Nat) : Int) := by rw [u8_small (by omega)]; omega
  have e4 : (i : Int) % 256 = (((UInt8.ofNat (i % 256)).toNat : Nat) : Int) := by rw [u8_small (by omega)]; omega
  have e5 : (i : Int) / 256 % 256 = (((UInt8.ofNat (i / 256 % 256)).toNat : Nat) : Int) := by rw [u8_small (by omega)]; omega
  have e6 : (i : Int) / 65536 % 256 = (((UInt8.ofNat (i / 65536 % 256)).toNat : Nat) : Int) := by rw [u8_small (by omega)]; omega
  rw [e2, e3, e4, e5, e6]
  generalize hk' : (k : Int) = kk
  rw [hk'] at e1
  rw [e1]
  unfold wbK
  generalize UInt8.ofNat k = c1
  generalize UInt8.ofNat (k / 256) = c2
  generalize UInt8.ofNat (k / 65536) = c3
  generalize UInt8.ofNat (i % 256) = c4
  generalize UInt8.ofNat (i / 256 % 256) = c5
  generalize UInt8.ofNat (i / 65536 % 256) = c6
  have h := run_convert_bytes_back (P := Tryz.prog) (w.alloc (.cells #[.int .u8 35, .int .u8 (c1.toNat : Int), .int .u8 (c2.toNat : Int), .int .u8 (c3.toNat : Int), .int .u8 46, .int .u8 (c4.toNat : Int), .int .u8 (c5.toNat : Int), .int .u8 (c6.toNat : Int)] 5)) 81 9 5 ⟨w.heap.size, 0, none⟩ 8 [35, c1, c2, c3, 46, c4, c5, c6] Tryz.underlying81 Tryz.underlying5 Tryz.underlying9 (by
    intro j hj
    have hj6 : j < 8 := hj
    rcases (show j = 0 ∨ j = 1 ∨ j = 2 ∨ j = 3 ∨ j = 4 ∨ j = 5 ∨ j = 6 ∨ j = 7 by omega) with rfl | rfl | rfl | rfl | rfl | rfl | rfl | rfl <;> simp [Addr.add, go_sem])
  exact h

set_option maxRecDepth 100000 in
set_option maxHeartbeats 1600000 in
theorem w_kword (k i : Nat) (w : World) (hk : k ≤ 255) (hi : i ≤ 4294967296) :
    Calls Tryz.prog 105 #[.int .i64 (k : Int), .int .i64 (i : Int)] w fun e w' => e = .returned (.string (wbK k i)) ∧ Below w.heap.size w w' := by
  have hcv := conv8 k i w hk
  have HB := Hid.mk (below1 w (.cells #[.int .u8 35, .int .u8 (k : Int), .int .u8 ((k : Int) / 256), .int .u8 ((k : Int) / 65536), .int .u8 46, .int .u8 ((i : Int) % 256), .int .u8 ((i : Int) / 256 % 256), .int .u8 ((i : Int) / 65536 % 256)] 5))
  have h0 : (0 : Int) ≤ (k : Int) := by omega
  have h1 : (k : Int) ≤ 255 := by omega
  have h2 : (0 : Int) ≤ (i : Int) := by omega
  have h3 : (i : Int) ≤ 4294967296 := by omega
  go_enter Tryz.func105, Tryz.ntmps105
  go_wp2_with fail
  go_ret
  exact ⟨rfl, HB.out⟩

/-- a mark -/
def mkA (k i : Nat) : Value := .agg #[.int .i64 (-10 - (k : Int)), .int .i64 0, .int .i64 0, .string (wbK k i)]
set_option maxRecDepth 100000 in
set_option maxHeartbeats 1600000 in
theorem w_markTokens (k i : Nat) (w : World) (hk : k ≤ 255) (hi : i ≤ 4294967296) :
    Calls Tryz.prog 66 #[.int .i64 (k : Int), .int .i64 (i : Int)] w fun e w' => e = .returned (mkA k i) ∧ Below w.heap.size w w' := by
  have HW := Hid.mk (fun u => w_kword k i u hk hi)
  have h0 : (0 : Int) ≤ (k : Int) := by omega
  have h1 : (k : Int) ≤ 255 := by omega
  unfold mkA
  generalize wbK k i = B at *
  go_enter Tryz.func66, Tryz.ntmps66
  go_wp2_with fail
  refine (HW.out _).mono ?_
  rintro e w1 ⟨rfl, hb1⟩
  have hbx := tbox1 hb1
  have HB1 := Hid.mk hbx.2
  obtain ⟨hc0, hc1, hc2, hc3, hf0, hf1, hf2, hf3⟩ := tbox_cells hbx.1
  have HX := Hid.mk hbx.1
  clear hb1 hbx
  go_wp2_with fail
  (try simp only [Exit.inBlock, Exit.then])
  generalize hz : ((((w1).setCell ⟨w.heap.size, 0, none⟩ (.int .i64 (-10 - (k : Int)))).setCell ⟨w.heap.size, 1, none⟩ (.int .i64 0)).setCell ⟨w.heap.size, 2, none⟩ (.int .i64 0)).setCell ⟨w.heap.size, 3, none⟩ (.string B) = wz
  obtain ⟨z1, z2, z3, z4⟩ := box_set4 _ _ _ _ _ _ _ _ _ _ _ HX.out wz hz.symm
  obtain ⟨hd0, hd1, hd2, hd3, _⟩ := tbox_cells z1
  refine bodyPost_ret (v := .agg #[.int .i64 (-10 - (k : Int)), .int .i64 0, .int .i64 0, .string B]) (by simp [results, Tryz.results66, go_sem, hd0, hd1, hd2, hd3]) rfl ?_
  exact ⟨rfl, HB1.out.trans (z4 _ (Nat.le_refl _))⟩

set_option maxRecDepth 100000 in
set_option maxHeartbeats 1600000 in
theorem w_SameMark (kd : Int) (tb : ByteArray) (w : World) : Calls Tryz.prog 16 #[.agg #[.int .i64 kd, .int .i64 0, .int .i64 0, .string tb], .agg #[.int .i64 kd, .int .i64 0, .int .i64 0, .string tb]] w fun e w' => e = .returned (.bool true) ∧ Below w.heap.size w w' := by
  have h1 : (kd == kd) = true := by simp
  have h4 : (tb.toList == tb.toList) = true := by simp
  have HB := Hid.mk ((below1 w (.cells #[.int .i64 kd, .int .i64 0, .int .i64 0, .string tb] 54)).alloc (by simp) (.cells #[.int .i64 kd, .int .i64 0, .int .i64 0, .string tb] 54))
  go_enter Tryz.func16, Tryz.ntmps16
  go_wp2_with fail
  go_ret
  exact ⟨rfl, HB.out⟩

set_option maxRecDepth 100000 in
set_option maxHeartbeats 1600000 in
theorem w_bToken (p v0 v1 v2 v3 : Value) (w : World) : Calls Tryz.prog 17 #[p, .agg #[v0, v1, v2, v3]] w fun e w' => (∃ v, e = .returned v) ∧ Below w.heap.size w w' := by
  have HB := Hid.mk (below1 w (.cells #[v0, v1, v2, v3] 54))
  go_enter Tryz.func17, Tryz.ntmps17
  go_wp2_with fail
  first | go_ret | go_ret2 | go_end0
  exact ⟨⟨_, rfl⟩, HB.out⟩
end Go.Proofs.YtohclfgghobldaaGreatDoor
