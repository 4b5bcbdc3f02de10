import Derived.Test.YtfjmgccbpiolhaaGreatDoorM23
import Derived.Shelf.Strings.SlTrimAscii
import Derived.Deep.QuietTactic
import Derived.BigQuiet
namespace Go.Proofs.YtfjmgccbpiolhaaGreatDoor
open Go.RowKit
set_option linter.unusedVariables false
set_option linter.unusedSimpArgs false

theorem size_lst (s : ByteArray) : s.data.toList.length = s.size := by rw [Array.length_toList]; rfl
theorem extract_lst (s : ByteArray) (a b : Nat) (hb : b ≤ s.size) : (s.extract a b).data.toList = cut s.data.toList a b := by
  rw [Lib.extract_data]; rfl

set_option maxRecDepth 100000 in
set_option maxHeartbeats 1600000 in
theorem w_behind (s cs : ByteArray) (p : Nat) (w : World) (hp : p ≤ s.size) (hs : s.size ≤ 140737488355328) (hcs : cs.size < 4294967281) (hascii : ∀ (j : Nat) b, cs.data.toList[j]? = some b → b.toNat < 128) :
    Calls Tryz.prog 148 #[.string s, .int .i64 (p : Int), .string cs] w fun e w' => e = .returned (.int .i64 ((behL s.data.toList p cs.data.toList : Nat) : Int)) ∧ Below w.heap.size w w' := by
  have HT := Hid.mk (fun u => Any.strings_TrimLeft_laid Tryz.lays161 (by kernel_rfl) (s.extract p s.size) cs u hcs hascii)
  have hx : (s.extract p s.size).data.toList = s.data.toList.drop p := by
    rw [Lib.extract_data]
    exact List.take_of_length_le (by rw [List.length_drop, size_lst]; exact Nat.le_refl _)
  rw [hx] at HT
  obtain ⟨T, hT⟩ : ∃ T, (Lib.trimLeftS (s.data.toList.drop p) cs.data.toList) = T := ⟨_, rfl⟩
  rw [hT] at HT
  have hle : T.length ≤ s.size := by
    rw [← hT]
    have := dropWhile_le (cs.data.toList.contains ·) (s.data.toList.drop p)
    rw [List.length_drop, size_lst] at this
    exact Nat.le_trans this (by omega)
  have HB : Hid (((behL s.data.toList p cs.data.toList : Nat) : Int) = (s.size : Int) - (T.length : Int)) := by
    show _ = _
    unfold behL
    rw [size_lst, show (s.data.toList.drop p).dropWhile (cs.data.toList.contains ·) = T from hT]
    omega
  have hTs : ((⟨T.toArray⟩ : ByteArray).size : Int) = (T.length : Int) := by show ((T.toArray.size : Nat) : Int) = _; rw [List.size_toArray]
  have h0 : (0 : Int) ≤ (p : Int) := by omega
  have h1 : (p : Int) ≤ (s.size : Int) := by omega
  clear hx hT hascii
  go_enter Tryz.func148, Tryz.ntmps148
  go_wp2_with fail
  refine (HT.out _).mono ?_
  rintro e w1 ⟨rfl, hb1⟩
  have HB1 := Hid.mk hb1
  clear hb1
  generalize hQ : (⟨T.toArray⟩ : ByteArray) = tq at *
  clear hQ
  go_wp2_with fail
  go_ret
  refine ⟨?_, HB1.out⟩
  rw [HB.out, ← hTs]
  first | rfl | go_num

theorem ascii_all {cs : List UInt8} (h : cs.all (fun b => decide (b.toNat < 128)) = true) : ∀ (j : Nat) b, cs[j]? = some b → b.toNat < 128 := fun j b hb => by
  have := List.all_eq_true.1 h b (List.mem_of_getElem? hb)
  simpa using this

set_option maxRecDepth 100000 in
set_option maxHeartbeats 800000 in
theorem w_fault (p e : Int) (w : World) :
    Calls Tryz.prog 150 #[.int .i64 p, .int .i64 e] w fun en w' => en = .returned (.tuple #[.agg #[.int .i64 0, .int .i64 p, .int .i64 0, .string ⟨#[]⟩], .int .i64 e]) ∧ Below w.heap.size w w' := by
  have HB := Hid.mk (below1 w (.cells #[.int .i64 0, .int .i64 p, .int .i64 0, .string ⟨#[]⟩] 126))
  go_enter Tryz.func150, Tryz.ntmps150
  go_wp2_with fail
  (try simp only [Exit.inBlock, Exit.then])
  refine bodyPost_ret (v := .tuple #[.agg #[.int .i64 0, .int .i64 p, .int .i64 0, .string ⟨#[]⟩], .int .i64 e]) (by simp [results, Tryz.results150, go_sem]) rfl ?_
  exact ⟨rfl, HB.out⟩

def tokV (t : Tok) : Value := .agg #[.int .i64 (t.kind : Int), .int .i64 (t.at_ : Int), .int .i64 (t.fin : Int), .string ⟨t.text.toArray⟩]
def TokR (t : Tok) (w w' : World) (e : Ending) : Prop := e = .returned (.tuple #[tokV t, .int .i64 (t.err : Int)]) ∧ Below w.heap.size w w'

theorem indexB_bd (l : List UInt8) (c : UInt8) : -1 ≤ Lib.indexByte l c ∧ Lib.indexByte l c < (l.length : Int) := by
  induction l with
  | nil => simp [Lib.indexByte]
  | cons x r ih =>
    unfold Lib.indexByte
    simp only [List.length_cons]
    repeat' split
    all_goals omega
theorem indexB_has (l : List UInt8) (c : UInt8) : (l.contains c = true ↔ 0 ≤ Lib.indexByte l c) := by
  induction l with
  | nil => simp [Lib.indexByte]
  | cons x r ih =>
    have hb := indexB_bd r c
    rw [List.contains_cons]
    unfold Lib.indexByte
    cases h : (x == c) with
    | true =>
      have : x = c := by simpa using h
      subst this
      simp
    | false =>
      have h2 : (c == x) = false := by
        rw [beq_eq_false_iff_ne] at h ⊢
        exact fun e => h e.symm
      rw [h2, Bool.false_or]
      simp only [Bool.false_eq_true, if_false]
      rw [ih]
      by_cases hm : Lib.indexByte r c = -1
      · rw [hm]; simp
      · have : (Lib.indexByte r c == -1) = false := by rw [beq_eq_false_iff_ne]; exact hm
        rw [this]
        simp only [Bool.false_eq_true, if_false]
        omega
theorem byte_back (b : UInt8) : ((b.toNat : Nat) : Int).toNat.toUInt8 = b := by simp
theorem getD_byte {s : ByteArray} {p : Nat} (h : p < s.size) : s.data.toList.getD p 0 = s[p] := by
  rw [← byte_eq s p h]
  have : p < s.data.toList.length := by rw [size_lst]; exact h
  rw [List.getD, List.getElem?_eq_getElem this]; rfl

set_option maxRecDepth 100000 in
set_option maxHeartbeats 800000 in
theorem w_mark (s : ByteArray) (p : Nat) (w : World) (hp : p < s.size) (hs : s.size ≤ 140737488355328) (hc : cMk.contains (s.data.toList.getD p 0) = true) :
    Calls Tryz.prog 158 #[.string s, .int .i64 (p : Int)] w fun e w' => TokR ⟨(1 + Lib.indexByte cMk (s.data.toList.getD p 0)).toNat, p, p + 1, [], 0⟩ w w' e := by
  rw [getD_byte hp] at hc ⊢
  have hx := (indexB_has cMk s[p]).1 hc
  have hb := indexB_bd cMk s[p]
  have hlen : cMk.length = 6 := rfl
  have HI := Hid.mk (fun u => Tryz.strings_IndexByte ⟨#[123, 125, 91, 93, 58, 44]⟩ ((s[p].toNat : Nat) : Int) u)
  rw [byte_back] at HI
  have e1 : (⟨#[123, 125, 91, 93, 58, 44]⟩ : ByteArray).data.toList = cMk := rfl
  rw [e1] at HI
  generalize Lib.indexByte cMk s[p] = ix at *
  have h0 : (0 : Int) ≤ (p : Int) := by omega
  have h1 : (p : Int) < (s.size : Int) := by omega
  have HK : Hid (((1 + ix).toNat : Int) = 1 + ix) := by show _ = _; omega
  have hix : ix ≤ 5 := by omega
  have HB := Hid.mk (below1 w (.cells #[.int .i64 (1 + ix), .int .i64 (p : Int), .int .i64 ((p : Int) + 1), .string ⟨#[]⟩] 126))
  unfold TokR tokV
  clear hc hb hlen e1
  go_enter Tryz.func158, Tryz.ntmps158
  go_wp2_with fail
  refine (HI.out _).mono ?_
  rintro e w1 ⟨rfl, hw⟩
  obtain rfl := hw.symm
  go_wp2_with fail
  (try simp only [Exit.inBlock, Exit.then])
  refine bodyPost_ret (v := .tuple #[.agg #[.int .i64 (1 + ix), .int .i64 (p : Int), .int .i64 ((p : Int) + 1), .string ⟨#[]⟩], .int .i64 0]) (by simp [results, Tryz.results158, go_sem]) rfl ?_
  exact ⟨by show _ = Ending.returned (.tuple #[.agg #[.int .i64 (((1 + ix).toNat : Nat) : Int), .int .i64 (p : Int), .int .i64 ((p + 1 : Nat) : Int), .string ⟨#[]⟩], .int .i64 0]); rw [HK.out]; rfl, HB.out⟩

theorem box_set4 (w : World) (B : Nat) (t : TypeId) (y0 y1 y2 y3 a0 a1 a2 a3 : Value) (h : w.heap[B]? = some (.cells #[y0, y1, y2, y3] t (0, 0))) (wz : World) (hz : wz = (((w.setCell ⟨B, 0, none⟩ a0).setCell ⟨B, 1, none⟩ a1).setCell ⟨B, 2, none⟩ a2).setCell ⟨B, 3, none⟩ a3) :
    wz.heap[B]? = some (.cells #[a0, a1, a2, a3] t (0, 0)) ∧ (∀ b, b ≠ B → wz.heap[b]? = w.heap[b]?) ∧ wz.heap.size = w.heap.size ∧ ∀ n, n ≤ B → Below n w wz := by
  subst hz
  refine ⟨?_, fun b hb => ?_, by simp, fun n hn => ?_⟩
  · have e : ∀ (u : World) (c : Array Value) (i : Nat) (v : Value), u.heap[B]? = some (.cells c t (0, 0)) → (u.setCell ⟨B, i, none⟩ v).heap[B]? = some (.cells (c.setIfInBounds i v) t (0, 0)) := fun u c i v hu => by
      show (u.heap.modify B _)[B]? = _
      rw [Array.getElem?_modify, if_pos rfl, hu]; rfl
    exact e _ _ 3 a3 (e _ _ 2 a2 (e _ _ 1 a1 (e _ _ 0 a0 h)))
  · rw [Below.heap_setCell _ _ _ _ hb, Below.heap_setCell _ _ _ _ hb, Below.heap_setCell _ _ _ _ hb, Below.heap_setCell _ _ _ _ hb]
  · exact ((((Below.refl n w).setCell (p := ⟨B, 0, none⟩) hn _).setCell (p := ⟨B, 1, none⟩) hn _).setCell (p := ⟨B, 2, none⟩) hn _).setCell (p := ⟨B, 3, none⟩) hn _
theorem frozen_rowT {w : World} {B j : Nat} {cs : Array Value} {t : TypeId} (h : w.heap[B]? = some (.cells cs t (0, 0))) : w.frozen? ⟨B, j, none⟩ = false := by simp [World.frozen?, h]
theorem heap_lowT {w w' : World} {n : Nat} (hb : Below n w w') {b : Nat} {o : Obj} (hlt : b < n) (h : w.heap[b]? = some o) : w'.heap[b]? = some o := (hb.block b hlt).trans h
end Go.Proofs.YtfjmgccbpiolhaaGreatDoor
namespace Go.Proofs.YtfjmgccbpiolhaaGreatDoor
open Go.RowKit
set_option linter.unusedVariables false
set_option linter.unusedSimpArgs false

def tbox0 : Obj := .cells #[.int .i64 0, .int .i64 0, .int .i64 0, .string ⟨#[]⟩] 126
theorem tbox1 {w w1 : World} (hb : Below (w.alloc tbox0).heap.size (w.alloc tbox0) w1) : w1.heap[w.heap.size]? = some (.cells #[.int .i64 0, .int .i64 0, .int .i64 0, .string ⟨#[]⟩] 126 (0, 0)) ∧ Below w.heap.size w w1 :=
  ⟨heap_lowT hb (by simp) (heap_alloc_new w _), (below1 w tbox0).trans (hb.mono (by simp))⟩
theorem tbox_cells {w : World} {B : Nat} {t : TypeId} {y0 y1 y2 y3 : Value} (h : w.heap[B]? = some (.cells #[y0, y1, y2, y3] t (0, 0))) :
    w.cell? ⟨B, 0, none⟩ = some y0 ∧ w.cell? ⟨B, 1, none⟩ = some y1 ∧ w.cell? ⟨B, 2, none⟩ = some y2 ∧ w.cell? ⟨B, 3, none⟩ = some y3 ∧ w.frozen? ⟨B, 0, none⟩ = false ∧ w.frozen? ⟨B, 1, none⟩ = false ∧ w.frozen? ⟨B, 2, none⟩ = false ∧ w.frozen? ⟨B, 3, none⟩ = false := by
  refine ⟨?_, ?_, ?_, ?_, frozen_rowT h, frozen_rowT h, frozen_rowT h, frozen_rowT h⟩ <;> rw [cell_of_row _ _ _ _ _ _ h] <;> rfl

set_option maxRecDepth 100000 in
set_option maxHeartbeats 1600000 in
theorem w_literal (s : ByteArray) (p : Nat) (w : World) (hp : p < s.size) (hs : s.size ≤ 1099511627776) (hq : s[p] = 34) (hE : ErrIn w) :
    Calls Tryz.prog 159 #[.string s, .int .i64 (p : Int)] w fun e w' => TokR (litT s.data.toList p) w w' e := by
  have HU := Hid.mk (fun u (h : ErrIn u) => w_Unquote_ex s p u hp hs hq h)
  have HE := Hid.mk (hE.keep (below1 w (.cells #[.int .i64 0, .int .i64 0, .int .i64 0, .string ⟨#[]⟩] 126)))
  unfold litT
  obtain ⟨R, hR⟩ : ∃ R, unqL s.data.toList (p + 1) [] = R := ⟨_, rfl⟩
  rw [hR] at HU ⊢
  obtain ⟨A, q, c⟩ := R
  clear hR hE hq
  unfold UnqX at HU
  dsimp only at HU ⊢
  generalize txt A = T at *
  by_cases h0 : c = 0
  · subst h0
    rw [if_pos rfl]
    unfold TokR tokV
    dsimp only
    generalize (⟨T.toArray⟩ : ByteArray) = tx at *
    go_enter Tryz.func159, Tryz.ntmps159
    go_wp2_with fail
    refine (HU.out _ HE.out).mono ?_
    rintro e w1 ⟨rfl, hb1⟩
    have hbx := tbox1 hb1
    have HB1 := Hid.mk hbx.2
    obtain ⟨hc0, hc1, hc2, hc3, hf0, hf1, hf2, hf3⟩ := tbox_cells hbx.1
    have HX := Hid.mk hbx.1
    clear hb1 hbx
    go_wp2_with fail
    (try simp only [Exit.inBlock, Exit.then])
    generalize hz : ((((w1).setCell ⟨w.heap.size, 0, none⟩ (.int .i64 11)).setCell ⟨w.heap.size, 1, none⟩ (.int .i64 (p : Int))).setCell ⟨w.heap.size, 2, none⟩ (.int .i64 (q : Int))).setCell ⟨w.heap.size, 3, none⟩ (.string tx) = wz
    obtain ⟨z1, z2, z3, z4⟩ := box_set4 _ _ _ _ _ _ _ _ _ _ _ HX.out wz hz.symm
    obtain ⟨hd0, hd1, hd2, hd3, _⟩ := tbox_cells z1
    refine bodyPost_ret (v := .tuple #[.agg #[.int .i64 11, .int .i64 (p : Int), .int .i64 (q : Int), .string tx], .int .i64 0]) (by simp [results, Tryz.results159, go_sem, hd0, hd1, hd2, hd3]) rfl ?_
    exact ⟨rfl, HB1.out.trans (z4 _ (Nat.le_refl _))⟩
  · rw [if_neg h0]
    have hb : (((c : Nat) : Int) == 0) = false := by rw [beq_eq_false_iff_ne]; omega
    unfold TokR tokV
    dsimp only
    generalize (⟨T.toArray⟩ : ByteArray) = tx at *
    go_enter Tryz.func159, Tryz.ntmps159
    go_wp2_with fail
    refine (HU.out _ HE.out).mono ?_
    rintro e w1 ⟨rfl, hb1⟩
    have hbx := tbox1 hb1
    have HB1 := Hid.mk hbx.2
    obtain ⟨hc0, hc1, hc2, hc3, hf0, hf1, hf2, hf3⟩ := tbox_cells hbx.1
    have HX := Hid.mk hbx.1
    clear hb1 hbx
    go_wp2_with fail
    refine (w_fault _ _ _).mono ?_
    rintro e w2 ⟨rfl, hb2⟩
    have HX2 := Hid.mk (heap_lowT hb2 (Nat.lt_of_lt_of_le (Array.getElem?_eq_some_iff.1 HX.out).1 (Nat.le_refl _)) HX.out)
    have HB2 := Hid.mk (HB1.out.trans (hb2.mono HB1.out.size))
    obtain ⟨kc0, kc1, kc2, kc3, kf0, kf1, kf2, kf3⟩ := tbox_cells HX2.out
    clear hb2
    go_wp2_with fail
    (try simp only [Exit.inBlock, Exit.then])
    generalize hz : ((((w2).setCell ⟨w.heap.size, 0, none⟩ (.int .i64 0)).setCell ⟨w.heap.size, 1, none⟩ (.int .i64 (q : Int))).setCell ⟨w.heap.size, 2, none⟩ (.int .i64 0)).setCell ⟨w.heap.size, 3, none⟩ (.string ⟨#[]⟩) = wz
    obtain ⟨z1, z2, z3, z4⟩ := box_set4 _ _ _ _ _ _ _ _ _ _ _ HX2.out wz hz.symm
    obtain ⟨hd0, hd1, hd2, hd3, _⟩ := tbox_cells z1
    refine bodyPost_ret (v := .tuple #[.agg #[.int .i64 0, .int .i64 (q : Int), .int .i64 0, .string ⟨#[]⟩], .int .i64 (c : Int)]) (by simp [results, Tryz.results159, go_sem, hd0, hd1, hd2, hd3]) rfl ?_
    exact ⟨rfl, HB2.out.trans (z4 _ (Nat.le_refl _))⟩

theorem cut_size {s : ByteArray} {a b : Nat} (h : a ≤ b) (hb : b ≤ s.size) : (cut s.data.toList a b).length = b - a := by
  unfold cut; rw [List.length_take, List.length_drop, size_lst]; omega
def bWd : ByteArray := ⟨#[97, 98, 99, 100, 101, 102, 103, 104, 105, 106, 107, 108, 109, 110, 111, 112, 113, 114, 115, 116, 117, 118, 119, 120, 121, 122, 65, 66, 67, 68, 69, 70, 71, 72, 73, 74, 75, 76, 77, 78, 79, 80, 81, 82, 83, 84, 85, 86, 87, 88, 89, 90, 95, 48, 49, 50, 51, 52, 53, 54, 55, 56, 57]⟩
def bNm : ByteArray := ⟨#[97, 98, 99, 100, 101, 102, 103, 104, 105, 106, 107, 108, 109, 110, 111, 112, 113, 114, 115, 116, 117, 118, 119, 120, 121, 122, 65, 66, 67, 68, 69, 70, 71, 72, 73, 74, 75, 76, 77, 78, 79, 80, 81, 82, 83, 84, 85, 86, 87, 88, 89, 90, 95, 48, 49, 50, 51, 52, 53, 54, 55, 56, 57, 43, 45, 46]⟩

set_option maxRecDepth 100000 in
set_option maxHeartbeats 3200000 in
theorem w_numeral (s : ByteArray) (p : Nat) (w : World) (hp : p < s.size) (hs : s.size ≤ 4294967296) :
    Calls Tryz.prog 161 #[.string s, .int .i64 (p : Int)] w fun e w' => TokR (numeralT s.data.toList p) w w' e := by
  have HC := Hid.mk (fun u => w_behind s bNm p u (by omega) (by omega) (by decide) (ascii_all (by decide +kernel)))
  have hbe := behL_ge (l := s.data.toList) (p := p) cNm (by rw [size_lst]; omega)
  have e1 : bNm.data.toList = cNm := rfl
  rw [e1] at HC
  have e2 : bNm = ⟨#[97, 98, 99, 100, 101, 102, 103, 104, 105, 106, 107, 108, 109, 110, 111, 112, 113, 114, 115, 116, 117, 118, 119, 120, 121, 122, 65, 66, 67, 68, 69, 70, 71, 72, 73, 74, 75, 76, 77, 78, 79, 80, 81, 82, 83, 84, 85, 86, 87, 88, 89, 90, 95, 48, 49, 50, 51, 52, 53, 54, 55, 56, 57, 43, 45, 46]⟩ := rfl
  rw [e2] at HC
  clear e1 e2
  unfold numeralT
  generalize behL s.data.toList p cNm = q at *
  rw [size_lst] at hbe
  obtain ⟨hpq, hqs⟩ := hbe
  have hcl : (cut s.data.toList p q).length ≤ s.size := by rw [cut_size hpq hqs]; omega
  have hX := extract_lst s p q hqs
  have hXs : (s.extract p q).size ≤ s.size := by rw [← size_lst, hX]; exact hcl
  rw [← hX]
  clear hX hcl
  have h0 : (0 : Int) ≤ (p : Int) := by omega
  have h1 : (p : Int) ≤ (q : Int) := by omega
  have h2 : (q : Int) ≤ (s.size : Int) := by omega
  have hm : ∀ t : ByteArray, t.size ≤ s.size → t.size ≤ maxLen := fun t h => by unfold maxLen; omega
  by_cases hz : (s.extract p q).data.toList = [45, 48]
  · have hzb : ((s.extract p q).toList == [45, 48]) = true := by rw [Lib.toList_data, hz]; rfl
    have e3 : numT (s.extract p q).data.toList = [48] := by unfold numT; rw [if_pos hz]
    rw [e3, if_pos (by decide)]
    unfold TokR tokV
    dsimp only
    have HF := Hid.mk (fun u => w_Formed ⟨#[48]⟩ u (by decide))
    have hfo : Pl.formed (ByteArray.mk #[48]).data.toList = true := by decide
    rw [hfo] at HF
    clear hz e3 hfo
    go_enter Tryz.func161, Tryz.ntmps161
    go_wp2_with fail
    refine (HC.out _).mono ?_
    rintro e w1 ⟨rfl, hb1⟩
    have hbx := tbox1 hb1
    have HB1 := Hid.mk hbx.2
    have HX := Hid.mk hbx.1
    clear hb1 hbx
    go_wp2_with fail
    refine (HF.out _).mono ?_
    rintro e w2 ⟨rfl, hb2⟩
    have HX2 := Hid.mk (heap_lowT hb2 (Nat.lt_of_lt_of_le (Array.getElem?_eq_some_iff.1 HX.out).1 (Nat.le_refl _)) HX.out)
    have HB2 := Hid.mk (HB1.out.trans (hb2.mono HB1.out.size))
    obtain ⟨kc0, kc1, kc2, kc3, kf0, kf1, kf2, kf3⟩ := tbox_cells HX2.out
    clear hb2
    go_wp2_with fail
    (try simp only [Exit.inBlock, Exit.then])
    generalize hz : ((((w2).setCell ⟨w.heap.size, 0, none⟩ (.int .i64 10)).setCell ⟨w.heap.size, 1, none⟩ (.int .i64 (p : Int))).setCell ⟨w.heap.size, 2, none⟩ (.int .i64 (q : Int))).setCell ⟨w.heap.size, 3, none⟩ (.string ⟨#[48]⟩) = wz
    obtain ⟨z1, z2, z3, z4⟩ := box_set4 _ _ _ _ _ _ _ _ _ _ _ HX2.out wz hz.symm
    obtain ⟨hd0, hd1, hd2, hd3, _⟩ := tbox_cells z1
    refine bodyPost_ret (v := .tuple #[.agg #[.int .i64 10, .int .i64 (p : Int), .int .i64 (q : Int), .string ⟨#[48]⟩], .int .i64 0]) (by simp [results, Tryz.results161, go_sem, hd0, hd1, hd2, hd3]) rfl ?_
    exact ⟨rfl, HB2.out.trans (z4 _ (Nat.le_refl _))⟩
  · have hzb : ((s.extract p q).toList == [45, 48]) = false := by rw [Lib.toList_data, beq_eq_false_iff_ne]; exact hz
    have e3 : numT (s.extract p q).data.toList = (s.extract p q).data.toList := by unfold numT; rw [if_neg hz]
    rw [e3]
    have HF := Hid.mk (fun u => w_Formed (s.extract p q) u (hm _ hXs))
    clear hz e3
    cases hfo : Pl.formed (s.extract p q).data.toList with
    | true =>
      rw [hfo] at HF
      rw [if_pos rfl]
      unfold TokR tokV
      dsimp only
      clear hfo hm hXs
      go_enter Tryz.func161, Tryz.ntmps161
      go_wp2_with fail
      refine (HC.out _).mono ?_
      rintro e w1 ⟨rfl, hb1⟩
      have hbx := tbox1 hb1
      have HB1 := Hid.mk hbx.2
      have HX := Hid.mk hbx.1
      clear hb1 hbx
      go_wp2_with fail
      refine (HF.out _).mono ?_
      rintro e w2 ⟨rfl, hb2⟩
      have HX2 := Hid.mk (heap_lowT hb2 (Nat.lt_of_lt_of_le (Array.getElem?_eq_some_iff.1 HX.out).1 (Nat.le_refl _)) HX.out)
      have HB2 := Hid.mk (HB1.out.trans (hb2.mono HB1.out.size))
      obtain ⟨kc0, kc1, kc2, kc3, kf0, kf1, kf2, kf3⟩ := tbox_cells HX2.out
      clear hb2
      go_wp2_with fail
      (try simp only [Exit.inBlock, Exit.then])
      generalize hz : ((((w2).setCell ⟨w.heap.size, 0, none⟩ (.int .i64 10)).setCell ⟨w.heap.size, 1, none⟩ (.int .i64 (p : Int))).setCell ⟨w.heap.size, 2, none⟩ (.int .i64 (q : Int))).setCell ⟨w.heap.size, 3, none⟩ (.string (s.extract p q)) = wz
      obtain ⟨z1, z2, z3, z4⟩ := box_set4 _ _ _ _ _ _ _ _ _ _ _ HX2.out wz hz.symm
      obtain ⟨hd0, hd1, hd2, hd3, _⟩ := tbox_cells z1
      refine bodyPost_ret (v := .tuple #[.agg #[.int .i64 10, .int .i64 (p : Int), .int .i64 (q : Int), .string (s.extract p q)], .int .i64 0]) (by simp [results, Tryz.results161, go_sem, hd0, hd1, hd2, hd3]) rfl ?_
      exact ⟨rfl, HB2.out.trans (z4 _ (Nat.le_refl _))⟩
    | false =>
      rw [hfo] at HF
      rw [if_neg (by decide)]
      unfold TokR tokV
      dsimp only
      clear hfo hm hXs
      go_enter Tryz.func161, Tryz.ntmps161
      go_wp2_with fail
      refine (HC.out _).mono ?_
      rintro e w1 ⟨rfl, hb1⟩
      have hbx := tbox1 hb1
      have HB1 := Hid.mk hbx.2
      have HX := Hid.mk hbx.1
      clear hb1 hbx
      go_wp2_with fail
      refine (HF.out _).mono ?_
      rintro e w2 ⟨rfl, hb2⟩
      have HX2 := Hid.mk (heap_lowT hb2 (Nat.lt_of_lt_of_le (Array.getElem?_eq_some_iff.1 HX.out).1 (Nat.le_refl _)) HX.out)
      have HB2 := Hid.mk (HB1.out.trans (hb2.mono HB1.out.size))
      clear hb2
      go_wp2_with fail
      refine (w_fault _ _ _).mono ?_
      rintro e w3 ⟨rfl, hb3⟩
      have HX3 := Hid.mk (heap_lowT hb3 (Nat.lt_of_lt_of_le (Array.getElem?_eq_some_iff.1 HX2.out).1 (Nat.le_refl _)) HX2.out)
      have HB3 := Hid.mk (HB2.out.trans (hb3.mono HB2.out.size))
      obtain ⟨kc0, kc1, kc2, kc3, kf0, kf1, kf2, kf3⟩ := tbox_cells HX3.out
      clear hb3
      go_wp2_with fail
      (try simp only [Exit.inBlock, Exit.then])
      generalize hz : ((((w3).setCell ⟨w.heap.size, 0, none⟩ (.int .i64 0)).setCell ⟨w.heap.size, 1, none⟩ (.int .i64 (p : Int))).setCell ⟨w.heap.size, 2, none⟩ (.int .i64 0)).setCell ⟨w.heap.size, 3, none⟩ (.string ⟨#[]⟩) = wz
      obtain ⟨z1, z2, z3, z4⟩ := box_set4 _ _ _ _ _ _ _ _ _ _ _ HX3.out wz hz.symm
      obtain ⟨hd0, hd1, hd2, hd3, _⟩ := tbox_cells z1
      refine bodyPost_ret (v := .tuple #[.agg #[.int .i64 0, .int .i64 (p : Int), .int .i64 0, .string ⟨#[]⟩], .int .i64 42]) (by simp [results, Tryz.results161, go_sem, hd0, hd1, hd2, hd3]) rfl ?_
      exact ⟨rfl, HB3.out.trans (z4 _ (Nat.le_refl _))⟩
end Go.Proofs.YtfjmgccbpiolhaaGreatDoor
