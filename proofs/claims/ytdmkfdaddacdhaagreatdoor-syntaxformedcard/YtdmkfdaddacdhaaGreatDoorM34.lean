import Derived.Test.YtdmkfdaddacdhaaGreatDoorM32
import Derived.Test.YtdmkfdaddacdhaaGreatDoorM33
namespace Go.Proofs.YtdmkfdaddacdhaaGreatDoor
open Go.RowKit
set_option linter.unusedVariables false
set_option linter.unusedSimpArgs false

/-- how a step of the cutter ends -/
def CtP (B C : Nat) (s : ByteArray) (v : Value) (op : List Nat) (t : Tok) (w w' : World) (e : Ending) : Prop :=
  e = .returned (.tuple #[tokV t, .int .i64 (t.err : Int)]) ∧ (∃ v', CtW B C s v' (openW t op) w') ∧ CtL C v.ownBlock w w' ∧ Below B w w'
theorem CtW.other {B C R : Nat} {s : ByteArray} {v : Value} {op : List Nat} {w wz : World} {cs : Array Value} (h : CtW B C s v op w) (hX : w.heap[R]? = some (.cells cs 42 (0, 0))) (z2 : ∀ b, b ≠ R → wz.heap[b]? = w.heap[b]?) : CtW B C s v op wz := by
  have hCR : C ≠ R := fun e => by
    have h1 := h.box
    unfold CtB at h1
    rw [e, hX] at h1
    simp at h1
  have hv : v.ownBlock ≠ some R := own_typeW h.row hX (by decide)
  refine ⟨(z2 C hCR).trans h.box, h.row.1, ?_⟩
  rcases h.row.2 with h1 | ⟨g', cap, cur, rfl, e2, e3, rest⟩
  · exact .inl h1
  · exact .inr ⟨g', cap, cur, rfl, e2, (z2 g' (fun e => hv (by rw [← e]; rfl))).trans e3, rest⟩
theorem ctp_close {B C : Nat} {s : ByteArray} {v v' : Value} {op op' : List Nat} {w w0 w1 wz : World} {cs : Array Value} (hC : CtW B C s v op w) (hB : B ≤ C) (h0 : Below w.heap.size w w0) (hL : CtL C v.ownBlock w0 w1) (hBl : Below B w0 w1) (h1 : CtW B C s v' op' w1)
    (hX : w1.heap[w.heap.size]? = some (.cells cs 42 (0, 0))) (z2 : ∀ b, b ≠ w.heap.size → wz.heap[b]? = w1.heap[b]?) (z3 : wz.heap.size = w1.heap.size) (z4 : ∀ n, n ≤ w.heap.size → Below n w1 wz) :
    (∃ v', CtW B C s v' op' wz) ∧ CtL C v.ownBlock w wz ∧ Below B w wz := by
  have hlt := hC.box.lt
  refine ⟨⟨v', h1.other hX z2⟩, ⟨by have := h0.size; have := hL.size; omega, fun b hb h2 h3 => ?_⟩, (h0.mono (by omega)).trans (hBl.trans (z4 B (by omega)))⟩
  rw [z2 b (by omega), hL.block b (by have := h0.size; omega) h2 h3, h0.block b hb]
/-- a step that only lays blocks -/
theorem ctp_plain {B C : Nat} {s : ByteArray} {v : Value} {op : List Nat} {t : Tok} {w w' : World} {e : Ending} (hC : CtW B C s v op w) (hB : B ≤ C) (ho : openW t op = op) (h : TokR t w w' e) : CtP B C s v op t w w' e :=
  ⟨h.1, ⟨v, by rw [ho]; exact hC.keep h.2⟩, CtL.of h.2, h.2.mono (by have := hC.box.lt; omega)⟩

set_option maxRecDepth 100000 in
set_option maxHeartbeats 6400000 in
theorem w_cMark (B C : Nat) (s : ByteArray) (p : Nat) (v : Value) (op : List Nat) (w : World) (hp : p < s.size) (hs : s.size ≤ 1099511627776) (hC : CtW B C s v op w) (hB : B ≤ C) (hop : ∀ x ∈ op, x ≤ 1099511627776) (hln : op.length ≤ 1099511627776) (hcl : mkW s.data.toList p = [41] → clsB op = false) :
    Calls Tryz.prog 95 #[.pointer (some ⟨C, 0, none⟩), .int .i64 (p : Int)] w fun e w' => CtP B C s v op (markT s.data.toList p) w w' e := by
  have HM := Hid.mk (fun u => w_markAt s p u hp (by omega))
  have hml : (mkW s.data.toList p).length ≤ s.size - p := by
    have := mkK_len s.data.toList p 3
    rw [size_lst] at this
    exact this
  have HC := Hid.mk hC
  unfold markT
  generalize mkW s.data.toList p = mk at *
  by_cases e0 : mk = []
  · subst e0
    rw [if_pos rfl]
    clear hcl
    have HC0 := Hid.mk (hC.box.low (below1 w tbox0) hC.box.lt)
    have c0 := HC0.out.c0
    unfold tbox0 at c0
    go_enter Tryz.func95, Tryz.ntmps95
    go_wp2_with fail
    refine (HM.out _).mono ?_
    rintro e w1 ⟨rfl, hw1⟩
    obtain rfl := hw1.symm
    clear c0
    go_wp2_with fail
    refine (w_wfault _ _ _).mono ?_
    rintro e w1 ⟨rfl, hb1⟩
    have hbx := tbox1 hb1
    have HB1 := Hid.mk hbx.2
    obtain ⟨kc0, kc1, kc2, kc3, kf0, kf1, kf2, kf3⟩ := tbox_cells hbx.1
    have HX := Hid.mk hbx.1
    clear hb1 hbx
    go_wp2_with fail
    (try simp only [Exit.inBlock, Exit.then])
    generalize hz : ((((w1).setCell ⟨w.heap.size, 0, none⟩ (.int .i64 0)).setCell ⟨w.heap.size, 1, none⟩ (.int .i64 (p : Int))).setCell ⟨w.heap.size, 2, none⟩ (.int .i64 0)).setCell ⟨w.heap.size, 3, none⟩ (.string ⟨#[]⟩) = wz
    obtain ⟨z1, z2, z3, z4⟩ := box_set4 _ _ _ _ _ _ _ _ _ _ _ HX.out wz hz.symm
    obtain ⟨hd0, hd1, hd2, hd3, _⟩ := tbox_cells z1
    refine bodyPost_ret (v := .tuple #[.agg #[.int .i64 0, .int .i64 (p : Int), .int .i64 0, .string ⟨#[]⟩], .int .i64 160]) (by simp [results, Tryz.results95, go_sem, hd0, hd1, hd2, hd3]) rfl ?_
    exact ctp_plain HC.out hB rfl ⟨rfl, HB1.out.trans (z4 _ (Nat.le_refl _))⟩
  rw [if_neg e0]
  by_cases e1 : mk = [40]
  · subst e1
    clear hcl e0
    have HC0 := Hid.mk (hC.box.low (below1 w tbox0) hC.box.lt)
    have c0 := HC0.out.c0
    unfold tbox0 at c0
    go_enter Tryz.func95, Tryz.ntmps95
    go_wp2_with fail
    refine (HM.out _).mono ?_
    rintro e w1 ⟨rfl, hw1⟩
    obtain rfl := hw1.symm
    clear c0
    go_wp2_with fail
    have hb0 := below1 w tbox0
    have hCw := HC.out.keep hb0
    refine (w_countUp B C s v op _ hCw hB hop hln).mono ?_
    rintro e w1 ⟨⟨r1, rfl⟩, hcw, hcl, hbl⟩
    have hX1 : w1.heap[w.heap.size]? = some tbox0 := (hcl.block w.heap.size (by simp) (Nat.ne_of_gt HC.out.box.lt) (fun e => absurd (own_ltT HC.out.row _ e) (Nat.lt_irrefl _))).trans (heap_alloc_new w tbox0)
    have HX := Hid.mk hX1
    have HCW := Hid.mk hcw
    have HCL := Hid.mk hcl
    have HBL := Hid.mk hbl
    have HB0 := Hid.mk hb0
    obtain ⟨kc0, kc1, kc2, kc3, kf0, kf1, kf2, kf3⟩ := tbox_cells hX1
    clear hcw hcl hbl hX1 hb0 hCw
    go_wp2_with fail
    (try simp only [Exit.inBlock, Exit.then])
    generalize hz : ((((w1).setCell ⟨w.heap.size, 0, none⟩ (.int .i64 10)).setCell ⟨w.heap.size, 1, none⟩ (.int .i64 (p : Int))).setCell ⟨w.heap.size, 2, none⟩ (.int .i64 ((p : Int) + 1))).setCell ⟨w.heap.size, 3, none⟩ (.string ⟨#[40]⟩) = wz
    obtain ⟨z1, z2, z3, z4⟩ := box_set4 _ _ _ _ _ _ _ _ _ _ _ HX.out wz hz.symm
    obtain ⟨hd0, hd1, hd2, hd3, _⟩ := tbox_cells z1
    refine bodyPost_ret (v := .tuple #[.agg #[.int .i64 10, .int .i64 (p : Int), .int .i64 ((p : Int) + 1), .string ⟨#[40]⟩], .int .i64 0]) (by simp [results, Tryz.results95, go_sem, hd0, hd1, hd2, hd3]) rfl ?_
    exact ⟨rfl, ctp_close HC.out hB HB0.out HCL.out HBL.out HCW.out HX.out z2 z3 z4⟩
  by_cases e2 : mk = [41]
  · subst e2
    have HCS := Hid.mk (hcl rfl)
    clear e0 e1 hcl
    have HC0 := Hid.mk (hC.box.low (below1 w tbox0) hC.box.lt)
    have c0 := HC0.out.c0
    unfold tbox0 at c0
    go_enter Tryz.func95, Tryz.ntmps95
    go_wp2_with fail
    refine (HM.out _).mono ?_
    rintro e w1 ⟨rfl, hw1⟩
    obtain rfl := hw1.symm
    clear c0
    go_wp2_with fail
    have hb0 := below1 w tbox0
    have hCw := HC.out.keep hb0
    refine (w_countDown B C s v op _ hCw hB hop hln HCS.out).mono ?_
    rintro e w1 ⟨⟨r1, rfl⟩, hcw, hcl, hbl⟩
    have hX1 : w1.heap[w.heap.size]? = some tbox0 := (hcl.block w.heap.size (by simp) (Nat.ne_of_gt HC.out.box.lt) (fun e => absurd (own_ltT HC.out.row _ e) (Nat.lt_irrefl _))).trans (heap_alloc_new w tbox0)
    have HX := Hid.mk hX1
    have HCW := Hid.mk hcw
    have HCL := Hid.mk hcl
    have HBL := Hid.mk hbl
    have HB0 := Hid.mk hb0
    obtain ⟨kc0, kc1, kc2, kc3, kf0, kf1, kf2, kf3⟩ := tbox_cells hX1
    clear hcw hcl hbl hX1 hb0 hCw
    go_wp2_with fail
    (try simp only [Exit.inBlock, Exit.then])
    generalize hz : ((((w1).setCell ⟨w.heap.size, 0, none⟩ (.int .i64 10)).setCell ⟨w.heap.size, 1, none⟩ (.int .i64 (p : Int))).setCell ⟨w.heap.size, 2, none⟩ (.int .i64 ((p : Int) + 1))).setCell ⟨w.heap.size, 3, none⟩ (.string ⟨#[41]⟩) = wz
    obtain ⟨z1, z2, z3, z4⟩ := box_set4 _ _ _ _ _ _ _ _ _ _ _ HX.out wz hz.symm
    obtain ⟨hd0, hd1, hd2, hd3, _⟩ := tbox_cells z1
    refine bodyPost_ret (v := .tuple #[.agg #[.int .i64 10, .int .i64 (p : Int), .int .i64 ((p : Int) + 1), .string ⟨#[41]⟩], .int .i64 0]) (by simp [results, Tryz.results95, go_sem, hd0, hd1, hd2, hd3]) rfl ?_
    exact ⟨rfl, ctp_close HC.out hB HB0.out HCL.out HBL.out HCW.out HX.out z2 z3 z4⟩
  have hsz : (⟨mk.toArray⟩ : ByteArray).size = mk.length := arr_size _
  have HOP : Hid (openW ⟨10, p, p + mk.length, mk, 0⟩ op = op) := by
    show _ = _
    unfold openW
    rw [if_neg (by show ¬ 10 = 7; decide), if_neg (by show ¬ 10 = 9; decide), if_neg (fun h => e1 h.2), if_neg (fun h => e2 h.2)]
  unfold CtP tokV
  dsimp only
  have g0 : ¬ (⟨mk.toArray⟩ : ByteArray).toList = [] := by rw [Lib.toList_data]; exact e0
  have g0' : (⟨mk.toArray⟩ : ByteArray).toList.isEmpty = false := by rw [List.isEmpty_eq_false_iff]; exact g0
  have g1 : ((⟨mk.toArray⟩ : ByteArray).toList == [40]) = false := by rw [Lib.toList_data, beq_eq_false_iff_ne]; exact e1
  have g2 : ((⟨mk.toArray⟩ : ByteArray).toList == [41]) = false := by rw [Lib.toList_data, beq_eq_false_iff_ne]; exact e2
  generalize (⟨mk.toArray⟩ : ByteArray) = tb at *
  have HR : Hid (((mk.length : Nat) : Int) = (tb.size : Int)) := by show _ = _; rw [hsz]
  have HR2 : Hid (((p + mk.length : Nat) : Int) = (p : Int) + (tb.size : Int)) := by show _ = _; rw [hsz]; omega
  have hln2 : p + tb.size ≤ s.size := by omega
  clear hsz e0 e1 e2 hcl hml
  have HC0 := Hid.mk (hC.box.low (below1 w tbox0) hC.box.lt)
  have c0 := HC0.out.c0
  unfold tbox0 at c0
  go_enter Tryz.func95, Tryz.ntmps95
  go_wp2_with fail
  refine (HM.out _).mono ?_
  rintro e w1 ⟨rfl, hw1⟩
  obtain rfl := hw1.symm
  clear c0
  obtain ⟨W, hW⟩ : ∃ W, w.alloc tbox0 = W := ⟨_, rfl⟩
  have hX := heap_alloc_new w tbox0
  rw [hW] at hX
  have HX := Hid.mk hX
  have hb := below1 w tbox0
  rw [hW] at hb
  have HB := Hid.mk hb
  obtain ⟨kc0, kc1, kc2, kc3, kf0, kf1, kf2, kf3⟩ := tbox_cells hX
  unfold tbox0 at hW
  rw [hW]
  clear hW hX hb
  go_wp2_with fail
  (try simp only [Exit.inBlock, Exit.then])
  generalize hz : ((((W).setCell ⟨w.heap.size, 0, none⟩ (.int .i64 10)).setCell ⟨w.heap.size, 1, none⟩ (.int .i64 (p : Int))).setCell ⟨w.heap.size, 2, none⟩ (.int .i64 ((p : Int) + (tb.size : Int)))).setCell ⟨w.heap.size, 3, none⟩ (.string tb) = wz
  obtain ⟨z1, z2, z3, z4⟩ := box_set4 _ _ _ _ _ _ _ _ _ _ _ HX.out wz hz.symm
  obtain ⟨hd0, hd1, hd2, hd3, _⟩ := tbox_cells z1
  refine bodyPost_ret (v := .tuple #[.agg #[.int .i64 10, .int .i64 (p : Int), .int .i64 ((p : Int) + (tb.size : Int)), .string tb], .int .i64 0]) (by simp [results, Tryz.results95, go_sem, hd0, hd1, hd2, hd3]) rfl ?_
  refine ⟨by first | (rw [HR.out]; first | done | rfl) | (rw [HR2.out]; first | done | rfl), ?_⟩
  rw [HOP.out]
  exact ctp_close HC.out hB HB.out (CtL.refl _ _ _) (Below.refl _ _) (HC.out.keep HB.out) HX.out z2 z3 z4
end Go.Proofs.YtdmkfdaddacdhaaGreatDoor
namespace Go.Proofs.YtdmkfdaddacdhaaGreatDoor
open Go.RowKit
set_option linter.unusedVariables false
set_option linter.unusedSimpArgs false

theorem open_name (l : List UInt8) (p : Nat) (op : List Nat) : openW (nameT l p) op = op := by
  unfold openW nameT
  cases ownB (nameW l p) <;> rfl
theorem open_var (l : List UInt8) (p : Nat) (op : List Nat) : openW (varT l p) op = op := by
  unfold varT
  split <;> rfl
theorem open_field (l : List UInt8) (p : Nat) (op : List Nat) : openW (fieldT l p) op = op := rfl
theorem open_num (l : List UInt8) (p : Nat) (op : List Nat) : openW (numT16 l p) op = op := by
  unfold numT16
  split <;> rfl
theorem mkW_head {l : List UInt8} {p : Nat} (h : mkW l p = [41]) (hp : p < l.length) : (l.getD p 0).toNat = 41 := by
  have e := drop_getD hp
  unfold mkW at h
  rw [e] at h
  split at h
  · simp at h; exact congrArg UInt8.toNat (show l.getD p 0 = 41 from h.1)
  · split at h
    · simp at h; exact congrArg UInt8.toNat (show l.getD p 0 = 41 from h.1)
    · split at h
      · simp at h; exact congrArg UInt8.toNat (show l.getD p 0 = 41 from h)
      · cases h
theorem cls_ne {op : List Nat} (h : clsB op = true) : op ≠ [] := fun e => by rw [e] at h; exact absurd h (by decide)

set_option maxRecDepth 100000 in
set_option maxHeartbeats 6400000 in
theorem w_tokA (B C : Nat) (s : ByteArray) (p : Nat) (v : Value) (op : List Nat) (w : World) (hp : p < s.size) (hs : s.size ≤ 1073741824) (hC : CtW B C s v op w) (hB : B ≤ C) (hop : ∀ x ∈ op, x ≤ 1099511627776) (hln : op.length ≤ 1099511627776) (hE : ErrIn w) (hle : leB s[p] = true) :
    Calls Tryz.prog 53 #[.pointer (some ⟨C, 0, none⟩), .int .i64 (p : Int)] w fun e w' => CtP B C s v op (tokW s.data.toList op p) w w' e := by
  have HLe := Hid.mk (fun u => w_wLetter s[p] u)
  have HDg := Hid.mk (fun u => w_wDigit s[p] u)
  have HNa := Hid.mk (fun u => w_nameAt s (p + 1) u (by omega) (by omega))
  rw [show ((p + 1 : Nat) : Int) = (p : Int) + 1 by omega] at HNa
  have hgd := getD_byte hp
  have hb0 := below1 w tbox0
  have hC0 := hC.keep hb0
  have hE0 := hE.keep hb0
  have c0 := hC0.box.c0
  have hX00 := heap_alloc_new w tbox0
  have HCl : Hid (∀ w0, CtW B C s v op w0 → Calls Tryz.prog 94 #[.pointer (some ⟨C, 0, none⟩)] w0 fun e w' => e = .returned (.bool (clsB op)) ∧ w' = w0) := fun w0 h => w_closes B C s v op w0 h hln
  have HC := Hid.mk hC
  have HC0 := Hid.mk hC0
  have HB0 := Hid.mk hb0
  have HE0 := Hid.mk hE0
  have HX0 := Hid.mk hX00
  unfold tbox0 at c0
  have hi0 : (0 : Int) ≤ (p : Int) := by omega
  have hi1 : (p : Int) < (s.size : Int) := by omega
  obtain ⟨xi, hxi⟩ : ∃ xi : Int, ((s[p].toNat : Nat) : Int) = xi := ⟨_, rfl⟩
  rw [hxi] at HLe HDg
  have hlt : p < s.data.toList.length := by rw [size_lst]; exact hp
  unfold tokW
  rw [hgd]
  clear hC hC0 hE hE0 hb0 hX00
  rw [if_pos hle]
  rw [hle] at HLe
  have HM : Hid (Calls Tryz.prog 87 #[.pointer (some ⟨C, 0, none⟩), .int .i64 (p : Int)] (w.alloc tbox0) fun e w' => CtP B C s v op (nameT s.data.toList p) (w.alloc tbox0) w' e) := (w_cName s p C v _ hp (by omega) HC0.out.box).mono (fun e w' h => ctp_plain HC0.out hB (open_name _ _ _) h)
  unfold tbox0 at HM HC0 HB0 HX0 HE0
  clear HCl HNa HDg
  generalize nameT s.data.toList p = t at *
  obtain ⟨kd, pa, fi, tx, er⟩ := t
  unfold CtP tokV at HM ⊢
  dsimp only at HM ⊢
  go_enter Tryz.func53, Tryz.ntmps53
  go_wp2_with fail
  refine (HLe.out _).mono ?_
  rintro e wq ⟨rfl, hwq⟩
  obtain rfl := hwq.symm
  go_wp2_with fail
  refine HM.out.mono ?_
  rintro e w1 ⟨rfl, ⟨v1, hcw⟩, hcl1, hbl⟩
  have hX1 := (hcl1.block w.heap.size (by simp [tbox0]) (Nat.ne_of_gt HC.out.box.lt) (fun e => absurd (own_ltT HC.out.row _ e) (Nat.lt_irrefl _))).trans HX0.out
  have HX := Hid.mk hX1
  have HCW := Hid.mk hcw
  have HCL := Hid.mk hcl1
  have HBL := Hid.mk hbl
  obtain ⟨kc0, kc1, kc2, kc3, kf0, kf1, kf2, kf3⟩ := tbox_cells hX1
  clear hcw hcl1 hbl hX1 c0
  go_wp2_with fail
  (try simp only [Exit.inBlock, Exit.then])
  generalize hz : ((((w1).setCell ⟨w.heap.size, 0, none⟩ (.int .i64 (kd : Int))).setCell ⟨w.heap.size, 1, none⟩ (.int .i64 (pa : Int))).setCell ⟨w.heap.size, 2, none⟩ (.int .i64 (fi : Int))).setCell ⟨w.heap.size, 3, none⟩ (.string ⟨tx.toArray⟩) = wz
  obtain ⟨z1, z2, z3, z4⟩ := box_set4 _ _ _ _ _ _ _ _ _ _ _ HX.out wz hz.symm
  obtain ⟨hd0, hd1, hd2, hd3, _⟩ := tbox_cells z1
  refine bodyPost_ret (v := .tuple #[.agg #[.int .i64 (kd : Int), .int .i64 (pa : Int), .int .i64 (fi : Int), .string ⟨tx.toArray⟩], .int .i64 (er : Int)]) (by simp [results, Tryz.results53, go_sem, hd0, hd1, hd2, hd3]) rfl ?_
  exact ⟨rfl, ctp_close HC.out hB HB0.out HCL.out HBL.out HCW.out HX.out z2 z3 z4⟩

set_option maxRecDepth 100000 in
set_option maxHeartbeats 6400000 in
theorem w_tokB (B C : Nat) (s : ByteArray) (p : Nat) (v : Value) (op : List Nat) (w : World) (hp : p < s.size) (hs : s.size ≤ 1073741824) (hC : CtW B C s v op w) (hB : B ≤ C) (hop : ∀ x ∈ op, x ≤ 1099511627776) (hln : op.length ≤ 1099511627776) (hE : ErrIn w) (hle : leB s[p] = false) (h36 : s[p].toNat = 36) :
    Calls Tryz.prog 53 #[.pointer (some ⟨C, 0, none⟩), .int .i64 (p : Int)] w fun e w' => CtP B C s v op (tokW s.data.toList op p) w w' e := by
  have HLe := Hid.mk (fun u => w_wLetter s[p] u)
  have HDg := Hid.mk (fun u => w_wDigit s[p] u)
  have HNa := Hid.mk (fun u => w_nameAt s (p + 1) u (by omega) (by omega))
  rw [show ((p + 1 : Nat) : Int) = (p : Int) + 1 by omega] at HNa
  have hgd := getD_byte hp
  have hb0 := below1 w tbox0
  have hC0 := hC.keep hb0
  have hE0 := hE.keep hb0
  have c0 := hC0.box.c0
  have hX00 := heap_alloc_new w tbox0
  have HCl : Hid (∀ w0, CtW B C s v op w0 → Calls Tryz.prog 94 #[.pointer (some ⟨C, 0, none⟩)] w0 fun e w' => e = .returned (.bool (clsB op)) ∧ w' = w0) := fun w0 h => w_closes B C s v op w0 h hln
  have HC := Hid.mk hC
  have HC0 := Hid.mk hC0
  have HB0 := Hid.mk hb0
  have HE0 := Hid.mk hE0
  have HX0 := Hid.mk hX00
  unfold tbox0 at c0
  have hi0 : (0 : Int) ≤ (p : Int) := by omega
  have hi1 : (p : Int) < (s.size : Int) := by omega
  obtain ⟨xi, hxi⟩ : ∃ xi : Int, ((s[p].toNat : Nat) : Int) = xi := ⟨_, rfl⟩
  rw [hxi] at HLe HDg
  have hlt : p < s.data.toList.length := by rw [size_lst]; exact hp
  unfold tokW
  rw [hgd]
  clear hC hC0 hE hE0 hb0 hX00
  rw [if_neg (by rw [hle]; decide)]
  rw [hle] at HLe
  rw [if_pos h36]
  obtain rfl : 36 = xi := by omega
  have HM : Hid (Calls Tryz.prog 88 #[.pointer (some ⟨C, 0, none⟩), .int .i64 (p : Int)] (w.alloc tbox0) fun e w' => CtP B C s v op (varT s.data.toList p) (w.alloc tbox0) w' e) := (w_cVar s p C v _ hp (by omega) HC0.out.box).mono (fun e w' h => ctp_plain HC0.out hB (open_var _ _ _) h)
  unfold tbox0 at HM HC0 HB0 HX0 HE0
  clear HCl HNa HDg
  generalize varT s.data.toList p = t at *
  obtain ⟨kd, pa, fi, tx, er⟩ := t
  unfold CtP tokV at HM ⊢
  dsimp only at HM ⊢
  go_enter Tryz.func53, Tryz.ntmps53
  go_wp2_with fail
  refine (HLe.out _).mono ?_
  rintro e wq ⟨rfl, hwq⟩
  obtain rfl := hwq.symm
  go_wp2_with fail
  refine HM.out.mono ?_
  rintro e w1 ⟨rfl, ⟨v1, hcw⟩, hcl1, hbl⟩
  have hX1 := (hcl1.block w.heap.size (by simp [tbox0]) (Nat.ne_of_gt HC.out.box.lt) (fun e => absurd (own_ltT HC.out.row _ e) (Nat.lt_irrefl _))).trans HX0.out
  have HX := Hid.mk hX1
  have HCW := Hid.mk hcw
  have HCL := Hid.mk hcl1
  have HBL := Hid.mk hbl
  obtain ⟨kc0, kc1, kc2, kc3, kf0, kf1, kf2, kf3⟩ := tbox_cells hX1
  clear hcw hcl1 hbl hX1 c0
  go_wp2_with fail
  (try simp only [Exit.inBlock, Exit.then])
  generalize hz : ((((w1).setCell ⟨w.heap.size, 0, none⟩ (.int .i64 (kd : Int))).setCell ⟨w.heap.size, 1, none⟩ (.int .i64 (pa : Int))).setCell ⟨w.heap.size, 2, none⟩ (.int .i64 (fi : Int))).setCell ⟨w.heap.size, 3, none⟩ (.string ⟨tx.toArray⟩) = wz
  obtain ⟨z1, z2, z3, z4⟩ := box_set4 _ _ _ _ _ _ _ _ _ _ _ HX.out wz hz.symm
  obtain ⟨hd0, hd1, hd2, hd3, _⟩ := tbox_cells z1
  refine bodyPost_ret (v := .tuple #[.agg #[.int .i64 (kd : Int), .int .i64 (pa : Int), .int .i64 (fi : Int), .string ⟨tx.toArray⟩], .int .i64 (er : Int)]) (by simp [results, Tryz.results53, go_sem, hd0, hd1, hd2, hd3]) rfl ?_
  exact ⟨rfl, ctp_close HC.out hB HB0.out HCL.out HBL.out HCW.out HX.out z2 z3 z4⟩

end Go.Proofs.YtdmkfdaddacdhaaGreatDoor
namespace Go.Proofs.YtdmkfdaddacdhaaGreatDoor
open Go.RowKit
set_option linter.unusedVariables false
set_option linter.unusedSimpArgs false

set_option maxRecDepth 100000 in
set_option maxHeartbeats 6400000 in
theorem w_tokC (B C : Nat) (s : ByteArray) (p : Nat) (v : Value) (op : List Nat) (w : World) (hp : p < s.size) (hs : s.size ≤ 1073741824) (hC : CtW B C s v op w) (hB : B ≤ C) (hop : ∀ x ∈ op, x ≤ 1099511627776) (hln : op.length ≤ 1099511627776) (hE : ErrIn w) (hle : leB s[p] = false) (h46 : s[p].toNat = 46) (hnm : nameW s.data.toList (p + 1) ≠ []) :
    Calls Tryz.prog 53 #[.pointer (some ⟨C, 0, none⟩), .int .i64 (p : Int)] w fun e w' => CtP B C s v op (tokW s.data.toList op p) w w' e := by
  have HLe := Hid.mk (fun u => w_wLetter s[p] u)
  have HDg := Hid.mk (fun u => w_wDigit s[p] u)
  have HNa := Hid.mk (fun u => w_nameAt s (p + 1) u (by omega) (by omega))
  rw [show ((p + 1 : Nat) : Int) = (p : Int) + 1 by omega] at HNa
  have hgd := getD_byte hp
  have hb0 := below1 w tbox0
  have hC0 := hC.keep hb0
  have hE0 := hE.keep hb0
  have c0 := hC0.box.c0
  have hX00 := heap_alloc_new w tbox0
  have HCl : Hid (∀ w0, CtW B C s v op w0 → Calls Tryz.prog 94 #[.pointer (some ⟨C, 0, none⟩)] w0 fun e w' => e = .returned (.bool (clsB op)) ∧ w' = w0) := fun w0 h => w_closes B C s v op w0 h hln
  have HC := Hid.mk hC
  have HC0 := Hid.mk hC0
  have HB0 := Hid.mk hb0
  have HE0 := Hid.mk hE0
  have HX0 := Hid.mk hX00
  unfold tbox0 at c0
  have hi0 : (0 : Int) ≤ (p : Int) := by omega
  have hi1 : (p : Int) < (s.size : Int) := by omega
  obtain ⟨xi, hxi⟩ : ∃ xi : Int, ((s[p].toNat : Nat) : Int) = xi := ⟨_, rfl⟩
  rw [hxi] at HLe HDg
  have hlt : p < s.data.toList.length := by rw [size_lst]; exact hp
  unfold tokW
  rw [hgd]
  clear hC hC0 hE hE0 hb0 hX00
  rw [if_neg (by rw [hle]; decide)]
  rw [hle] at HLe
  rw [if_neg (by omega), if_pos ⟨h46, hnm⟩]
  obtain rfl : 46 = xi := by omega
  have HM : Hid (Calls Tryz.prog 90 #[.pointer (some ⟨C, 0, none⟩), .int .i64 (p : Int)] (w.alloc tbox0) fun e w' => CtP B C s v op (fieldT s.data.toList p) (w.alloc tbox0) w' e) := (w_cField s p C v _ hp (by omega) HC0.out.box).mono (fun e w' h => ctp_plain HC0.out hB (open_field _ _ _) h)
  unfold tbox0 at HM HC0 HB0 HX0 HE0
  clear HCl HDg
  have g0 : ¬ (⟨(nameW s.data.toList (p + 1)).toArray⟩ : ByteArray).toList = [] := by rw [Lib.toList_data]; exact hnm
  have g0' : (⟨(nameW s.data.toList (p + 1)).toArray⟩ : ByteArray).toList.isEmpty = false := by rw [List.isEmpty_eq_false_iff]; exact g0
  generalize (⟨(nameW s.data.toList (p + 1)).toArray⟩ : ByteArray) = tb at *
  generalize fieldT s.data.toList p = t at *
  obtain ⟨kd, pa, fi, tx, er⟩ := t
  unfold CtP tokV at HM ⊢
  dsimp only at HM ⊢
  go_enter Tryz.func53, Tryz.ntmps53
  go_wp2_with fail
  refine (HLe.out _).mono ?_
  rintro e wq ⟨rfl, hwq⟩
  obtain rfl := hwq.symm
  go_wp2_with fail
  refine (HNa.out _).mono ?_
  rintro e wq ⟨rfl, hwq⟩
  obtain rfl := hwq.symm
  go_wp2_with fail
  refine HM.out.mono ?_
  rintro e w1 ⟨rfl, ⟨v1, hcw⟩, hcl1, hbl⟩
  have hX1 := (hcl1.block w.heap.size (by simp [tbox0]) (Nat.ne_of_gt HC.out.box.lt) (fun e => absurd (own_ltT HC.out.row _ e) (Nat.lt_irrefl _))).trans HX0.out
  have HX := Hid.mk hX1
  have HCW := Hid.mk hcw
  have HCL := Hid.mk hcl1
  have HBL := Hid.mk hbl
  obtain ⟨kc0, kc1, kc2, kc3, kf0, kf1, kf2, kf3⟩ := tbox_cells hX1
  clear hcw hcl1 hbl hX1 c0
  go_wp2_with fail
  (try simp only [Exit.inBlock, Exit.then])
  generalize hz : ((((w1).setCell ⟨w.heap.size, 0, none⟩ (.int .i64 (kd : Int))).setCell ⟨w.heap.size, 1, none⟩ (.int .i64 (pa : Int))).setCell ⟨w.heap.size, 2, none⟩ (.int .i64 (fi : Int))).setCell ⟨w.heap.size, 3, none⟩ (.string ⟨tx.toArray⟩) = wz
  obtain ⟨z1, z2, z3, z4⟩ := box_set4 _ _ _ _ _ _ _ _ _ _ _ HX.out wz hz.symm
  obtain ⟨hd0, hd1, hd2, hd3, _⟩ := tbox_cells z1
  refine bodyPost_ret (v := .tuple #[.agg #[.int .i64 (kd : Int), .int .i64 (pa : Int), .int .i64 (fi : Int), .string ⟨tx.toArray⟩], .int .i64 (er : Int)]) (by simp [results, Tryz.results53, go_sem, hd0, hd1, hd2, hd3]) rfl ?_
  exact ⟨rfl, ctp_close HC.out hB HB0.out HCL.out HBL.out HCW.out HX.out z2 z3 z4⟩

set_option maxRecDepth 100000 in
set_option maxHeartbeats 6400000 in
theorem w_tokD (B C : Nat) (s : ByteArray) (p : Nat) (v : Value) (op : List Nat) (w : World) (hp : p < s.size) (hs : s.size ≤ 1073741824) (hC : CtW B C s v op w) (hB : B ≤ C) (hop : ∀ x ∈ op, x ≤ 1099511627776) (hln : op.length ≤ 1099511627776) (hE : ErrIn w) (hle : leB s[p] = false) (h46 : s[p].toNat = 46) (hnm : nameW s.data.toList (p + 1) = []) :
    Calls Tryz.prog 53 #[.pointer (some ⟨C, 0, none⟩), .int .i64 (p : Int)] w fun e w' => CtP B C s v op (tokW s.data.toList op p) w w' e := by
  have HLe := Hid.mk (fun u => w_wLetter s[p] u)
  have HDg := Hid.mk (fun u => w_wDigit s[p] u)
  have HNa := Hid.mk (fun u => w_nameAt s (p + 1) u (by omega) (by omega))
  rw [show ((p + 1 : Nat) : Int) = (p : Int) + 1 by omega] at HNa
  have hgd := getD_byte hp
  have hb0 := below1 w tbox0
  have hC0 := hC.keep hb0
  have hE0 := hE.keep hb0
  have c0 := hC0.box.c0
  have hX00 := heap_alloc_new w tbox0
  have HCl : Hid (∀ w0, CtW B C s v op w0 → Calls Tryz.prog 94 #[.pointer (some ⟨C, 0, none⟩)] w0 fun e w' => e = .returned (.bool (clsB op)) ∧ w' = w0) := fun w0 h => w_closes B C s v op w0 h hln
  have HC := Hid.mk hC
  have HC0 := Hid.mk hC0
  have HB0 := Hid.mk hb0
  have HE0 := Hid.mk hE0
  have HX0 := Hid.mk hX00
  unfold tbox0 at c0
  have hi0 : (0 : Int) ≤ (p : Int) := by omega
  have hi1 : (p : Int) < (s.size : Int) := by omega
  obtain ⟨xi, hxi⟩ : ∃ xi : Int, ((s[p].toNat : Nat) : Int) = xi := ⟨_, rfl⟩
  rw [hxi] at HLe HDg
  have hlt : p < s.data.toList.length := by rw [size_lst]; exact hp
  unfold tokW
  rw [hgd]
  clear hC hC0 hE hE0 hb0 hX00
  rw [if_neg (by rw [hle]; decide)]
  rw [hle] at HLe
  have hdg : dgB s[p] = false := by unfold dgB; exact decide_eq_false (by omega)
  rw [if_neg (by omega), if_neg (fun h => h.2 hnm), if_neg (by rw [hdg]; decide), if_neg (by omega), if_neg (by omega)]
  rw [hdg] at HDg
  rw [hnm] at HNa
  obtain rfl : 46 = xi := by omega
  have HM : Hid (Calls Tryz.prog 95 #[.pointer (some ⟨C, 0, none⟩), .int .i64 (p : Int)] (w.alloc tbox0) fun e w' => CtP B C s v op (markT s.data.toList p) (w.alloc tbox0) w' e) := w_cMark B C s p v op _ hp (by omega) HC0.out hB hop hln (fun h => by have := mkW_head h hlt; rw [hgd] at this; omega)
  unfold tbox0 at HM HC0 HB0 HX0 HE0
  clear HCl
  generalize markT s.data.toList p = t at *
  obtain ⟨kd, pa, fi, tx, er⟩ := t
  unfold CtP tokV at HM ⊢
  dsimp only at HM ⊢
  go_enter Tryz.func53, Tryz.ntmps53
  go_wp2_with fail
  refine (HLe.out _).mono ?_
  rintro e wq ⟨rfl, hwq⟩
  obtain rfl := hwq.symm
  go_wp2_with fail
  refine (HNa.out _).mono ?_
  rintro e wq ⟨rfl, hwq⟩
  obtain rfl := hwq.symm
  go_wp2_with fail
  refine (HDg.out _).mono ?_
  rintro e wq ⟨rfl, hwq⟩
  obtain rfl := hwq.symm
  go_wp2_with fail
  refine HM.out.mono ?_
  rintro e w1 ⟨rfl, ⟨v1, hcw⟩, hcl1, hbl⟩
  have hX1 := (hcl1.block w.heap.size (by simp [tbox0]) (Nat.ne_of_gt HC.out.box.lt) (fun e => absurd (own_ltT HC.out.row _ e) (Nat.lt_irrefl _))).trans HX0.out
  have HX := Hid.mk hX1
  have HCW := Hid.mk hcw
  have HCL := Hid.mk hcl1
  have HBL := Hid.mk hbl
  obtain ⟨kc0, kc1, kc2, kc3, kf0, kf1, kf2, kf3⟩ := tbox_cells hX1
  clear hcw hcl1 hbl hX1 c0
  go_wp2_with fail
  (try simp only [Exit.inBlock, Exit.then])
  generalize hz : ((((w1).setCell ⟨w.heap.size, 0, none⟩ (.int .i64 (kd : Int))).setCell ⟨w.heap.size, 1, none⟩ (.int .i64 (pa : Int))).setCell ⟨w.heap.size, 2, none⟩ (.int .i64 (fi : Int))).setCell ⟨w.heap.size, 3, none⟩ (.string ⟨tx.toArray⟩) = wz
  obtain ⟨z1, z2, z3, z4⟩ := box_set4 _ _ _ _ _ _ _ _ _ _ _ HX.out wz hz.symm
  obtain ⟨hd0, hd1, hd2, hd3, _⟩ := tbox_cells z1
  refine bodyPost_ret (v := .tuple #[.agg #[.int .i64 (kd : Int), .int .i64 (pa : Int), .int .i64 (fi : Int), .string ⟨tx.toArray⟩], .int .i64 (er : Int)]) (by simp [results, Tryz.results53, go_sem, hd0, hd1, hd2, hd3]) rfl ?_
  exact ⟨rfl, ctp_close HC.out hB HB0.out HCL.out HBL.out HCW.out HX.out z2 z3 z4⟩

end Go.Proofs.YtdmkfdaddacdhaaGreatDoor
