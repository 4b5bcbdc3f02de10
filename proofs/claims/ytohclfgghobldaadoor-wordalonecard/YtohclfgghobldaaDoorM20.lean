import Derived.Test.YtohclfgghobldaaDoorM19
namespace Go.Proofs.YtohclfgghobldaaDoor
open Go.RowKit
set_option linter.unusedVariables false
set_option linter.unusedSimpArgs false

theorem ext_cut (s : ByteArray) (a b : Nat) (hb : b ≤ s.size) : s.extract a b = ⟨(cut s.data.toList a b).toArray⟩ := by
  have h := extract_lst s a b hb
  have e : (s.extract a b).data = (cut s.data.toList a b).toArray := by rw [← h]
  cases hx : s.extract a b with
  | mk d => rw [hx] at e; exact congrArg ByteArray.mk e
theorem arr_lst (x : List UInt8) : (⟨x.toArray⟩ : ByteArray).data.toList = x := rfl
theorem arr_size (x : List UInt8) : (⟨x.toArray⟩ : ByteArray).size = x.length := by show x.toArray.size = _; simp
theorem cut_len {l : List UInt8} {a b : Nat} (hb : b ≤ l.length) : (cut l a b).length = b - a := by unfold cut; simp; omega
theorem nameW_len {l : List UInt8} {p : Nat} (hp : p ≤ l.length) : p + (nameW l p).length ≤ l.length := by
  unfold nameW
  split
  · next h =>
    have := bhP_ge inB hp
    rw [cut_len this.2]; omega
  · simpa using hp

set_option maxRecDepth 100000 in
set_option maxHeartbeats 1600000 in
theorem w_nameAt (s : ByteArray) (p : Nat) (w : World) (hp : p ≤ s.size) (hs : s.size ≤ 140737488355328) :
    Calls Tryd.prog 23 #[.string s, .int .i64 (p : Int)] w fun e w' => e = .returned (.string ⟨(nameW s.data.toList p).toArray⟩) ∧ w' = w := by
  by_cases he : p = s.size
  · have HN : Hid (nameW s.data.toList p = []) := by show _ = _; unfold nameW; rw [if_neg (by rw [size_lst]; omega)]
    have hq : ((p : Int) == (s.size : Int)) = true := by rw [he]; simp
    clear he
    go_enter Tryd.func23, Tryd.ntmps23
    go_wp2_with fail
    go_ret
    exact ⟨by rw [HN.out]; first | done | rfl, rfl⟩
  · have hlt : p < s.size := by omega
    have hq : ((p : Int) == (s.size : Int)) = false := by rw [beq_eq_false_iff_ne]; omega
    have hi0 : (0 : Int) ≤ (p : Int) := by omega
    have hi1 : (p : Int) < (s.size : Int) := by omega
    have hc := fun u => w_wLetter s[p] u
    have hd := getD_byte hlt
    cases h1 : leB s[p] with
    | false =>
      rw [h1] at hc
      have HC := Hid.mk hc
      have HN : Hid (nameW s.data.toList p = []) := by show _ = _; unfold nameW; rw [if_neg (by rw [hd, h1]; simp)]
      clear he hc hd h1
      go_enter Tryd.func23, Tryd.ntmps23
      go_wp2_with fail
      refine (HC.out _).mono ?_
      rintro e w1 ⟨rfl, hw1⟩
      obtain rfl := hw1.symm
      go_wp2_with fail
      go_ret
      exact ⟨by rw [HN.out]; first | done | rfl, rfl⟩
    | true =>
      rw [h1] at hc
      have HC := Hid.mk hc
      have HBh := Hid.mk (fun u => w_bhName s p u hp hs)
      have hbe := bhP_ge inB (l := s.data.toList) (p := p) (by rw [size_lst]; omega)
      have HN : Hid (nameW s.data.toList p = cut s.data.toList p (bhP inB s.data.toList p)) := by show _ = _; unfold nameW; rw [if_pos ⟨by rw [size_lst]; exact hlt, by rw [hd, h1]⟩]
      have HX := Hid.mk (ext_cut s p (bhP inB s.data.toList p) (by rw [← size_lst]; exact hbe.2))
      rw [size_lst] at hbe
      generalize bhP inB s.data.toList p = q at *
      obtain ⟨hpq, hqs⟩ := hbe
      have hj1 : (p : Int) ≤ (q : Int) := by omega
      have hj2 : (q : Int) ≤ (s.size : Int) := by omega
      clear he hc hd h1
      go_enter Tryd.func23, Tryd.ntmps23
      go_wp2_with fail
      refine (HC.out _).mono ?_
      rintro e w1 ⟨rfl, hw1⟩
      obtain rfl := hw1.symm
      go_wp2_with fail
      refine (HBh.out _).mono ?_
      rintro e w1 ⟨rfl, hw1⟩
      obtain rfl := hw1.symm
      go_wp2_with fail
      go_ret
      exact ⟨by rw [HN.out, ← HX.out]; first | done | rfl, rfl⟩

theorem named_lst (s : ByteArray) : namedB s.data.toList = (!(s.toList == []) && ((⟨(nameW s.data.toList 0).toArray⟩ : ByteArray).toList == s.toList)) := by
  unfold namedB
  rw [Lib.toList_data, Lib.toList_data]
  show _ = (!(s.data.toList == []) && (nameW s.data.toList 0 == s.data.toList))
  generalize s.data.toList = l
  by_cases h1 : l = []
  · subst h1; simp
  · by_cases h2 : nameW l 0 = l
    · rw [decide_eq_true ⟨h1, h2⟩, h2, beq_eq_false_iff_ne.2 h1]; simp
    · rw [decide_eq_false (fun h => h2 h.2), beq_eq_false_iff_ne.2 h2]; simp

set_option maxRecDepth 100000 in
set_option maxHeartbeats 1600000 in
theorem w_Named (s : ByteArray) (w : World) (hs : s.size ≤ 140737488355328) :
    Calls Tryd.prog 15 #[.string s] w fun e w' => e = .returned (.bool (namedB s.data.toList)) ∧ w' = w := by
  have HN := Hid.mk (fun u => w_nameAt s 0 u (Nat.zero_le _) hs)
  rw [named_lst]
  generalize (⟨(nameW s.data.toList 0).toArray⟩ : ByteArray) = nm at *
  by_cases h0 : s.toList = []
  · have e1 : (s.toList == []) = true := by rw [h0]; rfl
    have e2 : s.toList.isEmpty = true := by rw [h0]; rfl
    rw [e1]
    clear HN
    go_enter Tryd.func15, Tryd.ntmps15
    go_wp2_with fail
    go_ret
    exact ⟨rfl, rfl⟩
  · have e1 : (s.toList == []) = false := beq_eq_false_iff_ne.2 h0
    have e2 : s.toList.isEmpty = false := by simp [h0]
    rw [e1]
    go_enter Tryd.func15, Tryd.ntmps15
    go_wp2_with fail
    refine (HN.out _).mono ?_
    rintro e w1 ⟨rfl, hw1⟩
    obtain rfl := hw1.symm
    go_wp2_with fail
    go_ret
    exact ⟨by simp, rfl⟩

set_option maxRecDepth 100000 in
set_option maxHeartbeats 1600000 in
theorem w_Plain (s : ByteArray) (w : World) (hs : s.size ≤ 140737488355328) :
    Calls Tryd.prog 11 #[.string s] w fun e w' => e = .returned (.bool (plainW s.data.toList)) ∧ w' = w := by
  have HN := Hid.mk (fun u => w_Named s u hs)
  have HO := Hid.mk (fun u => w_wOwn s u)
  unfold plainW
  cases h1 : namedB s.data.toList with
  | false =>
    rw [h1] at HN
    clear h1
    go_enter Tryd.func11, Tryd.ntmps11
    go_wp2_with fail
    refine (HN.out _).mono ?_
    rintro e w1 ⟨rfl, hw1⟩
    obtain rfl := hw1.symm
    go_wp2_with fail
    go_ret
    exact ⟨rfl, rfl⟩
  | true =>
    rw [h1] at HN
    clear h1
    generalize ownB s.data.toList = b2 at *
    go_enter Tryd.func11, Tryd.ntmps11
    go_wp2_with fail
    refine (HN.out _).mono ?_
    rintro e w1 ⟨rfl, hw1⟩
    obtain rfl := hw1.symm
    go_wp2_with fail
    refine (HO.out _).mono ?_
    rintro e w1 ⟨rfl, hw1⟩
    obtain rfl := hw1.symm
    go_wp2_with fail
    go_ret
    exact ⟨by cases b2 <;> rfl, rfl⟩
end Go.Proofs.YtohclfgghobldaaDoor
namespace Go.Proofs.YtohclfgghobldaaDoor
open Go.RowKit
set_option linter.unusedVariables false
set_option linter.unusedSimpArgs false

def tbox0 : Obj := .cells #[.int .i64 0, .int .i64 0, .int .i64 0, .string ⟨#[]⟩] 23
theorem tbox1 {w w1 : World} (hb : Below (w.alloc tbox0).heap.size (w.alloc tbox0) w1) : w1.heap[w.heap.size]? = some (.cells #[.int .i64 0, .int .i64 0, .int .i64 0, .string ⟨#[]⟩] 23 (0, 0)) ∧ Below w.heap.size w w1 :=
  ⟨heap_lowT hb (by simp) (heap_alloc_new w _), (below1 w tbox0).trans (hb.mono (by simp))⟩
theorem tbox_cells {w : World} {B : Nat} {t : TypeId} {y0 y1 y2 y3 : Value} (h : w.heap[B]? = some (.cells #[y0, y1, y2, y3] t (0, 0))) :
    w.cell? ⟨B, 0, none⟩ = some y0 ∧ w.cell? ⟨B, 1, none⟩ = some y1 ∧ w.cell? ⟨B, 2, none⟩ = some y2 ∧ w.cell? ⟨B, 3, none⟩ = some y3 ∧ w.frozen? ⟨B, 0, none⟩ = false ∧ w.frozen? ⟨B, 1, none⟩ = false ∧ w.frozen? ⟨B, 2, none⟩ = false ∧ w.frozen? ⟨B, 3, none⟩ = false := by
  refine ⟨?_, ?_, ?_, ?_, frozen_rowT h, frozen_rowT h, frozen_rowT h, frozen_rowT h⟩ <;> rw [cell_of_row _ _ _ _ _ _ h] <;> rfl

theorem cut_size {s : ByteArray} {a b : Nat} (h : a ≤ b) (hb : b ≤ s.size) : (cut s.data.toList a b).length = b - a := by
  unfold cut; rw [List.length_take, List.length_drop, size_lst]; omega
theorem ext_eq (s : ByteArray) (a b : Nat) : s.extract a b = ⟨(cut s.data.toList a b).toArray⟩ := by
  have := extract_lst s a b
  apply ByteArray.ext
  apply Array.toList_inj.1
  rw [Lib.extract_data]; rfl
def bWd : ByteArray := ⟨#[97, 98, 99, 100, 101, 102, 103, 104, 105, 106, 107, 108, 109, 110, 111, 112, 113, 114, 115, 116, 117, 118, 119, 120, 121, 122, 65, 66, 67, 68, 69, 70, 71, 72, 73, 74, 75, 76, 77, 78, 79, 80, 81, 82, 83, 84, 85, 86, 87, 88, 89, 90, 95, 48, 49, 50, 51, 52, 53, 54, 55, 56, 57]⟩
def bNm : ByteArray := ⟨#[97, 98, 99, 100, 101, 102, 103, 104, 105, 106, 107, 108, 109, 110, 111, 112, 113, 114, 115, 116, 117, 118, 119, 120, 121, 122, 65, 66, 67, 68, 69, 70, 71, 72, 73, 74, 75, 76, 77, 78, 79, 80, 81, 82, 83, 84, 85, 86, 87, 88, 89, 90, 95, 48, 49, 50, 51, 52, 53, 54, 55, 56, 57, 43, 45, 46]⟩
end Go.Proofs.YtohclfgghobldaaDoor
namespace Go.Proofs.YtohclfgghobldaaDoor
open Go.RowKit
set_option linter.unusedVariables false
set_option linter.unusedSimpArgs false

set_option maxRecDepth 100000 in
set_option maxHeartbeats 1600000 in
theorem w_literalW (x : ByteArray) (b : Bool) (w : World) (hs : x.size ≤ 140737488355328) :
    Calls Tryd.prog 36 #[.string x, .bool b] w fun e w' => e = .returned (.string ⟨(litW x.data.toList b).toArray⟩) ∧ w' = w := by
  have h1 : ¬ 9223372036854775807 < (⟨#[34]⟩ : ByteArray).size + x.size := by show ¬ _ < 1 + x.size; omega
  have h2 : ¬ (9223372036854775807 : Int) < ((⟨#[34]⟩ : ByteArray).size : Int) + (x.size : Int) := by show ¬ _ < ((1 : Nat) : Int) + (x.size : Int); omega
  have hz : ((⟨#[34]⟩ : ByteArray) ++ x).size = 1 + x.size := by rw [ByteArray.size_append]; rfl
  have h3 : ¬ 9223372036854775807 < ((⟨#[34]⟩ : ByteArray) ++ x).size + (⟨#[34]⟩ : ByteArray).size := by rw [hz]; show ¬ _ < 1 + x.size + 1; omega
  have h4 : ¬ (9223372036854775807 : Int) < (((⟨#[34]⟩ : ByteArray) ++ x).size : Int) + ((⟨#[34]⟩ : ByteArray).size : Int) := by rw [hz]; show ¬ _ < ((1 + x.size : Nat) : Int) + ((1 : Nat) : Int); omega
  have HX : Hid ((⟨#[34]⟩ : ByteArray) ++ x = ⟨(litW x.data.toList false).toArray⟩ ∧ ((⟨#[34]⟩ : ByteArray) ++ x) ++ ⟨#[34]⟩ = ⟨(litW x.data.toList true).toArray⟩) := by
    constructor
    · apply ByteArray.ext
      rw [ByteArray.data_append]
      apply Array.ext'
      rw [Array.toList_append]
      unfold litW; simp
    · apply ByteArray.ext
      rw [ByteArray.data_append, ByteArray.data_append]
      apply Array.ext'
      rw [Array.toList_append, Array.toList_append]
      unfold litW; simp
  clear hz
  cases b
  · go_enter Tryd.func36, Tryd.ntmps36
    go_wp2_with fail
    go_ret
    exact ⟨by rw [← HX.out.1]; first | done | rfl, rfl⟩
  · go_enter Tryd.func36, Tryd.ntmps36
    go_wp2_with fail
    go_ret
    exact ⟨by rw [← HX.out.2]; first | done | rfl, rfl⟩

set_option maxRecDepth 100000 in
set_option maxHeartbeats 800000 in
theorem w_wfault (p e : Int) (w : World) :
    Calls Tryd.prog 30 #[.int .i64 p, .int .i64 e] w fun en w' => en = .returned (.tuple #[.agg #[.int .i64 0, .int .i64 p, .int .i64 0, .string ⟨#[]⟩], .int .i64 e]) ∧ Below w.heap.size w w' := by
  have HB := Hid.mk (below1 w (.cells #[.int .i64 0, .int .i64 p, .int .i64 0, .string ⟨#[]⟩] 23))
  go_enter Tryd.func30, Tryd.ntmps30
  go_wp2_with fail
  (try simp only [Exit.inBlock, Exit.then])
  refine bodyPost_ret (v := .tuple #[.agg #[.int .i64 0, .int .i64 p, .int .i64 0, .string ⟨#[]⟩], .int .i64 e]) (by simp [results, Tryd.results30, go_sem]) rfl ?_
  exact ⟨rfl, HB.out⟩
end Go.Proofs.YtohclfgghobldaaDoor
namespace Go.Proofs.YtohclfgghobldaaDoor
open Go.RowKit
set_option linter.unusedVariables false
set_option linter.unusedSimpArgs false

/-- the cutter's box -/
def CtB (w : World) (C : Nat) (s : ByteArray) (v : Value) : Prop := w.heap[C]? = some (.cells #[.string s, v] 36 (0, 0))
theorem CtB.low {w w' : World} {n C : Nat} {s : ByteArray} {v : Value} (h : CtB w C s v) (hb : Below n w w') (hC : C < n) : CtB w' C s v := heap_lowT hb hC h
theorem CtB.lt {w : World} {C : Nat} {s : ByteArray} {v : Value} (h : CtB w C s v) : C < w.heap.size := (Array.getElem?_eq_some_iff.1 h).1
theorem CtB.c0 {w : World} {C : Nat} {s : ByteArray} {v : Value} (h : CtB w C s v) : w.cell? ⟨C, 0, none⟩ = some (.string s) := by rw [cell_of_row _ _ 0 _ _ _ h]; rfl
theorem CtB.c1 {w : World} {C : Nat} {s : ByteArray} {v : Value} (h : CtB w C s v) : w.cell? ⟨C, 1, none⟩ = some v := by rw [cell_of_row _ _ 1 _ _ _ h]; rfl
theorem CtB.f1 {w : World} {C : Nat} {s : ByteArray} {v : Value} (h : CtB w C s v) : w.frozen? ⟨C, 1, none⟩ = false := frozen_rowT (j := 1) h

set_option maxRecDepth 100000 in
set_option maxHeartbeats 3200000 in
theorem w_cName (s : ByteArray) (p C : Nat) (v : Value) (w : World) (hp : p < s.size) (hs : s.size ≤ 1099511627776) (hC : CtB w C s v) :
    Calls Tryd.prog 21 #[.pointer (some ⟨C, 0, none⟩), .int .i64 (p : Int)] w fun e w' => TokR (nameT s.data.toList p) w w' e := by
  have HN := Hid.mk (fun u => w_nameAt s p u (by omega) (by omega))
  have HO := Hid.mk (fun u => w_wOwn ⟨(nameW s.data.toList p).toArray⟩ u)
  rw [arr_lst (nameW s.data.toList p)] at HO
  have hln := nameW_len (l := s.data.toList) (p := p) (by rw [size_lst]; omega)
  rw [size_lst] at hln
  have hsz : (⟨(nameW s.data.toList p).toArray⟩ : ByteArray).size = (nameW s.data.toList p).length := arr_size _
  unfold nameT TokR tokV
  dsimp only
  generalize nameW s.data.toList p = nm at *
  obtain ⟨tb, htb⟩ : ∃ tb : ByteArray, (⟨nm.toArray⟩ : ByteArray) = tb := ⟨_, rfl⟩
  rw [htb] at HN HO hsz ⊢
  have HSZ := Hid.mk hsz
  clear htb
  have HR : Hid (((nm.length : Nat) : Int) = (tb.size : Int)) := by show _ = _; rw [hsz]
  have hln2 : p + tb.size ≤ s.size := by rw [hsz]; exact hln
  clear hsz hln
  cases ho : ownB nm with
  | false =>
    rw [ho] at HO
    clear ho
    have HC0 := Hid.mk (hC.low (below1 w tbox0) hC.lt)
    have c0 := HC0.out.c0
    unfold tbox0 at c0
    go_enter Tryd.func21, Tryd.ntmps21
    go_wp2_with fail
    refine (HN.out _).mono ?_
    rintro e w1 ⟨rfl, hw1⟩
    obtain rfl := hw1.symm
    clear c0
    go_wp2_with fail
    refine (HO.out _).mono ?_
    rintro e w1 ⟨rfl, hw1⟩
    obtain rfl := hw1.symm
    obtain ⟨W, hW⟩ : ∃ W, w.alloc tbox0 = W := ⟨_, rfl⟩
    have hX := heap_alloc_new w tbox0
    rw [hW] at hX
    have HX := Hid.mk hX
    have hb := below1 w tbox0
    rw [hW] at hb
    have HB := Hid.mk hb
    obtain ⟨kc0, kc1, kc2, kc3, kf0, kf1, kf2, kf3⟩ := tbox_cells hX
    unfold tbox0 at hW
    rw [hW]
    clear hW hX hb
    go_wp2_with fail
    (try simp only [Exit.inBlock, Exit.then])
    generalize hz : ((((W).setCell ⟨w.heap.size, 0, none⟩ (.int .i64 1)).setCell ⟨w.heap.size, 1, none⟩ (.int .i64 (p : Int))).setCell ⟨w.heap.size, 2, none⟩ (.int .i64 ((p : Int) + (tb.size : Int)))).setCell ⟨w.heap.size, 3, none⟩ (.string tb) = wz
    obtain ⟨z1, z2, z3, z4⟩ := box_set4 _ _ _ _ _ _ _ _ _ _ _ HX.out wz hz.symm
    obtain ⟨hd0, hd1, hd2, hd3, _⟩ := tbox_cells z1
    refine bodyPost_ret (v := .tuple #[.agg #[.int .i64 1, .int .i64 (p : Int), .int .i64 ((p : Int) + (tb.size : Int)), .string tb], .int .i64 0]) (by simp [results, Tryd.results21, go_sem, hd0, hd1, hd2, hd3]) rfl ?_
    exact ⟨by rw [HR.out]; first | done | rfl, HB.out.trans (z4 _ (Nat.le_refl _))⟩
  | true =>
    rw [ho] at HO
    clear ho
    have HC0 := Hid.mk (hC.low (below1 w tbox0) hC.lt)
    have c0 := HC0.out.c0
    unfold tbox0 at c0
    go_enter Tryd.func21, Tryd.ntmps21
    go_wp2_with fail
    refine (HN.out _).mono ?_
    rintro e w1 ⟨rfl, hw1⟩
    obtain rfl := hw1.symm
    clear c0
    go_wp2_with fail
    refine (HO.out _).mono ?_
    rintro e w1 ⟨rfl, hw1⟩
    obtain rfl := hw1.symm
    obtain ⟨W, hW⟩ : ∃ W, w.alloc tbox0 = W := ⟨_, rfl⟩
    have hX := heap_alloc_new w tbox0
    rw [hW] at hX
    have HX := Hid.mk hX
    have hb := below1 w tbox0
    rw [hW] at hb
    have HB := Hid.mk hb
    obtain ⟨kc0, kc1, kc2, kc3, kf0, kf1, kf2, kf3⟩ := tbox_cells hX
    unfold tbox0 at hW
    rw [hW]
    clear hW hX hb
    go_wp2_with fail
    (try simp only [Exit.inBlock, Exit.then])
    generalize hz : ((((W).setCell ⟨w.heap.size, 0, none⟩ (.int .i64 2)).setCell ⟨w.heap.size, 1, none⟩ (.int .i64 (p : Int))).setCell ⟨w.heap.size, 2, none⟩ (.int .i64 ((p : Int) + (tb.size : Int)))).setCell ⟨w.heap.size, 3, none⟩ (.string tb) = wz
    obtain ⟨z1, z2, z3, z4⟩ := box_set4 _ _ _ _ _ _ _ _ _ _ _ HX.out wz hz.symm
    obtain ⟨hd0, hd1, hd2, hd3, _⟩ := tbox_cells z1
    refine bodyPost_ret (v := .tuple #[.agg #[.int .i64 2, .int .i64 (p : Int), .int .i64 ((p : Int) + (tb.size : Int)), .string tb], .int .i64 0]) (by simp [results, Tryd.results21, go_sem, hd0, hd1, hd2, hd3]) rfl ?_
    exact ⟨by rw [HR.out]; first | done | rfl, HB.out.trans (z4 _ (Nat.le_refl _))⟩

end Go.Proofs.YtohclfgghobldaaDoor
