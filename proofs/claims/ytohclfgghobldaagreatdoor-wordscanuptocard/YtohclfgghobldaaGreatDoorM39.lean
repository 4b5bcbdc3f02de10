import Derived.Test.YtohclfgghobldaaGreatDoorM38
namespace Go.Proofs.YtohclfgghobldaaGreatDoor
open Go.RowKit
set_option linter.unusedVariables false
set_option linter.unusedSimpArgs false

theorem open_name (l : List UInt8) (p : Nat) (op : List Nat) : openW (nameT l p) op = op := by
  unfold openW nameT
  cases ownB (nameW l p) <;> rfl
theorem open_var (l : List UInt8) (p : Nat) (op : List Nat) : openW (varT l p) op = op := by
  unfold varT
  split <;> rfl
theorem open_field (l : List UInt8) (p : Nat) (op : List Nat) : openW (fieldT l p) op = op := rfl
theorem open_num (l : List UInt8) (p : Nat) (op : List Nat) : openW (numT16 l p) op = op := by
  unfold numT16
  split <;> rfl
theorem mkW_head {l : List UInt8} {p : Nat} (h : mkW l p = [41]) (hp : p < l.length) : (l.getD p 0).toNat = 41 := by
  have e := drop_getD hp
  unfold mkW at h
  rw [e] at h
  split at h
  · simp at h; exact congrArg UInt8.toNat (show l.getD p 0 = 41 from h.1)
  · split at h
    · simp at h; exact congrArg UInt8.toNat (show l.getD p 0 = 41 from h.1)
    · split at h
      · simp at h; exact congrArg UInt8.toNat (show l.getD p 0 = 41 from h)
      · cases h
theorem cls_ne {op : List Nat} (h : clsB op = true) : op ≠ [] := fun e => by rw [e] at h; exact absurd h (by decide)

set_option maxRecDepth 100000 in
set_option maxHeartbeats 6400000 in
theorem w_tokA (B C : Nat) (s : ByteArray) (p : Nat) (v : Value) (op : List Nat) (w : World) (hp : p < s.size) (hs : s.size ≤ 1073741824) (hC : CtW B C s v op w) (hB : B ≤ C) (hop : ∀ x ∈ op, x ≤ 1099511627776) (hln : op.length ≤ 1099511627776) (hE : ErrIn w) (hle : leB s[p] = true) :
    Calls Tryz.prog 15 #[.pointer (some ⟨C, 0, none⟩), .int .i64 (p : Int)] w fun e w' => CtP B C s v op (tokW s.data.toList op p) w w' e := by
  have HLe := Hid.mk (fun u => w_wLetter s[p] u)
  have HDg := Hid.mk (fun u => w_wDigit s[p] u)
  have HNa := Hid.mk (fun u => w_nameAt s (p + 1) u (by omega) (by omega))
  rw [show ((p + 1 : Nat) : Int) = (p : Int) + 1 by omega] at HNa
  have hgd := getD_byte hp
  have hb0 := below1 w tbox0
  have hC0 := hC.keep hb0
  have hE0 := hE.keep hb0
  have c0 := hC0.box.c0
  have hX00 := heap_alloc_new w tbox0
  have HCl : Hid (∀ w0, CtW B C s v op w0 → Calls Tryz.prog 57 #[.pointer (some ⟨C, 0, none⟩)] w0 fun e w' => e = .returned (.bool (clsB op)) ∧ w' = w0) := fun w0 h => w_closes B C s v op w0 h hln
  have HC := Hid.mk hC
  have HC0 := Hid.mk hC0
  have HB0 := Hid.mk hb0
  have HE0 := Hid.mk hE0
  have HX0 := Hid.mk hX00
  unfold tbox0 at c0
  have hi0 : (0 : Int) ≤ (p : Int) := by omega
  have hi1 : (p : Int) < (s.size : Int) := by omega
  obtain ⟨xi, hxi⟩ : ∃ xi : Int, ((s[p].toNat : Nat) : Int) = xi := ⟨_, rfl⟩
  rw [hxi] at HLe HDg
  have hlt : p < s.data.toList.length := by rw [size_lst]; exact hp
  unfold tokW
  rw [hgd]
  clear hC hC0 hE hE0 hb0 hX00
  rw [if_pos hle]
  rw [hle] at HLe
  have HM : Hid (Calls Tryz.prog 50 #[.pointer (some ⟨C, 0, none⟩), .int .i64 (p : Int)] (w.alloc tbox0) fun e w' => CtP B C s v op (nameT s.data.toList p) (w.alloc tbox0) w' e) := (w_cName s p C v _ hp (by omega) HC0.out.box).mono (fun e w' h => ctp_plain HC0.out hB (open_name _ _ _) h)
  unfold tbox0 at HM HC0 HB0 HX0 HE0
  clear HCl HNa HDg
  generalize nameT s.data.toList p = t at *
  obtain ⟨kd, pa, fi, tx, er⟩ := t
  unfold CtP tokV at HM ⊢
  dsimp only at HM ⊢
  go_enter Tryz.func15, Tryz.ntmps15
  go_wp2_with fail
  refine (HLe.out _).mono ?_
  rintro e wq ⟨rfl, hwq⟩
  obtain rfl := hwq.symm
  go_wp2_with fail
  refine HM.out.mono ?_
  rintro e w1 ⟨rfl, ⟨v1, hcw⟩, hcl1, hbl⟩
  have hX1 := (hcl1.block w.heap.size (by simp [tbox0]) (Nat.ne_of_gt HC.out.box.lt) (fun e => absurd (own_ltT HC.out.row _ e) (Nat.lt_irrefl _))).trans HX0.out
  have HX := Hid.mk hX1
  have HCW := Hid.mk hcw
  have HCL := Hid.mk hcl1
  have HBL := Hid.mk hbl
  obtain ⟨kc0, kc1, kc2, kc3, kf0, kf1, kf2, kf3⟩ := tbox_cells hX1
  clear hcw hcl1 hbl hX1 c0
  go_wp2_with fail
  (try simp only [Exit.inBlock, Exit.then])
  generalize hz : ((((w1).setCell ⟨w.heap.size, 0, none⟩ (.int .i64 (kd : Int))).setCell ⟨w.heap.size, 1, none⟩ (.int .i64 (pa : Int))).setCell ⟨w.heap.size, 2, none⟩ (.int .i64 (fi : Int))).setCell ⟨w.heap.size, 3, none⟩ (.string ⟨tx.toArray⟩) = wz
  obtain ⟨z1, z2, z3, z4⟩ := box_set4 _ _ _ _ _ _ _ _ _ _ _ HX.out wz hz.symm
  obtain ⟨hd0, hd1, hd2, hd3, _⟩ := tbox_cells z1
  refine bodyPost_ret (v := .tuple #[.agg #[.int .i64 (kd : Int), .int .i64 (pa : Int), .int .i64 (fi : Int), .string ⟨tx.toArray⟩], .int .i64 (er : Int)]) (by simp [results, Tryz.results15, go_sem, hd0, hd1, hd2, hd3]) rfl ?_
  exact ⟨rfl, ctp_close HC.out hB HB0.out HCL.out HBL.out HCW.out HX.out z2 z3 z4⟩

set_option maxRecDepth 100000 in
set_option maxHeartbeats 6400000 in
theorem w_tokB (B C : Nat) (s : ByteArray) (p : Nat) (v : Value) (op : List Nat) (w : World) (hp : p < s.size) (hs : s.size ≤ 1073741824) (hC : CtW B C s v op w) (hB : B ≤ C) (hop : ∀ x ∈ op, x ≤ 1099511627776) (hln : op.length ≤ 1099511627776) (hE : ErrIn w) (hle : leB s[p] = false) (h36 : s[p].toNat = 36) :
    Calls Tryz.prog 15 #[.pointer (some ⟨C, 0, none⟩), .int .i64 (p : Int)] w fun e w' => CtP B C s v op (tokW s.data.toList op p) w w' e := by
  have HLe := Hid.mk (fun u => w_wLetter s[p] u)
  have HDg := Hid.mk (fun u => w_wDigit s[p] u)
  have HNa := Hid.mk (fun u => w_nameAt s (p + 1) u (by omega) (by omega))
  rw [show ((p + 1 : Nat) : Int) = (p : Int) + 1 by omega] at HNa
  have hgd := getD_byte hp
  have hb0 := below1 w tbox0
  have hC0 := hC.keep hb0
  have hE0 := hE.keep hb0
  have c0 := hC0.box.c0
  have hX00 := heap_alloc_new w tbox0
  have HCl : Hid (∀ w0, CtW B C s v op w0 → Calls Tryz.prog 57 #[.pointer (some ⟨C, 0, none⟩)] w0 fun e w' => e = .returned (.bool (clsB op)) ∧ w' = w0) := fun w0 h => w_closes B C s v op w0 h hln
  have HC := Hid.mk hC
  have HC0 := Hid.mk hC0
  have HB0 := Hid.mk hb0
  have HE0 := Hid.mk hE0
  have HX0 := Hid.mk hX00
  unfold tbox0 at c0
  have hi0 : (0 : Int) ≤ (p : Int) := by omega
  have hi1 : (p : Int) < (s.size : Int) := by omega
  obtain ⟨xi, hxi⟩ : ∃ xi : Int, ((s[p].toNat : Nat) : Int) = xi := ⟨_, rfl⟩
  rw [hxi] at HLe HDg
  have hlt : p < s.data.toList.length := by rw [size_lst]; exact hp
  unfold tokW
  rw [hgd]
  clear hC hC0 hE hE0 hb0 hX00
  rw [if_neg (by rw [hle]; decide)]
  rw [hle] at HLe
  rw [if_pos h36]
  obtain rfl : 36 = xi := by omega
  have HM : Hid (Calls Tryz.prog 51 #[.pointer (some ⟨C, 0, none⟩), .int .i64 (p : Int)] (w.alloc tbox0) fun e w' => CtP B C s v op (varT s.data.toList p) (w.alloc tbox0) w' e) := (w_cVar s p C v _ hp (by omega) HC0.out.box).mono (fun e w' h => ctp_plain HC0.out hB (open_var _ _ _) h)
  unfold tbox0 at HM HC0 HB0 HX0 HE0
  clear HCl HNa HDg
  generalize varT s.data.toList p = t at *
  obtain ⟨kd, pa, fi, tx, er⟩ := t
  unfold CtP tokV at HM ⊢
  dsimp only at HM ⊢
  go_enter Tryz.func15, Tryz.ntmps15
  go_wp2_with fail
  refine (HLe.out _).mono ?_
  rintro e wq ⟨rfl, hwq⟩
  obtain rfl := hwq.symm
  go_wp2_with fail
  refine HM.out.mono ?_
  rintro e w1 ⟨rfl, ⟨v1, hcw⟩, hcl1, hbl⟩
  have hX1 := (hcl1.block w.heap.size (by simp [tbox0]) (Nat.ne_of_gt HC.out.box.lt) (fun e => absurd (own_ltT HC.out.row _ e) (Nat.lt_irrefl _))).trans HX0.out
  have HX := Hid.mk hX1
  have HCW := Hid.mk hcw
  have HCL := Hid.mk hcl1
  have HBL := Hid.mk hbl
  obtain ⟨kc0, kc1, kc2, kc3, kf0, kf1, kf2, kf3⟩ := tbox_cells hX1
  clear hcw hcl1 hbl hX1 c0
  go_wp2_with fail
  (try simp only [Exit.inBlock, Exit.then])
  generalize hz : ((((w1).setCell ⟨w.heap.size, 0, none⟩ (.int .i64 (kd : Int))).setCell ⟨w.heap.size, 1, none⟩ (.int .i64 (pa : Int))).setCell ⟨w.heap.size, 2, none⟩ (.int .i64 (fi : Int))).setCell ⟨w.heap.size, 3, none⟩ (.string ⟨tx.toArray⟩) = wz
  obtain ⟨z1, z2, z3, z4⟩ := box_set4 _ _ _ _ _ _ _ _ _ _ _ HX.out wz hz.symm
  obtain ⟨hd0, hd1, hd2, hd3, _⟩ := tbox_cells z1
  refine bodyPost_ret (v := .tuple #[.agg #[.int .i64 (kd : Int), .int .i64 (pa : Int), .int .i64 (fi : Int), .string ⟨tx.toArray⟩], .int .i64 (er : Int)]) (by simp [results, Tryz.results15, go_sem, hd0, hd1, hd2, hd3]) rfl ?_
  exact ⟨rfl, ctp_close HC.out hB HB0.out HCL.out HBL.out HCW.out HX.out z2 z3 z4⟩

end Go.Proofs.YtohclfgghobldaaGreatDoor
namespace Go.Proofs.YtohclfgghobldaaGreatDoor
open Go.RowKit
set_option linter.unusedVariables false
set_option linter.unusedSimpArgs false

set_option maxRecDepth 100000 in
set_option maxHeartbeats 6400000 in
theorem w_tokC (B C : Nat) (s : ByteArray) (p : Nat) (v : Value) (op : List Nat) (w : World) (hp : p < s.size) (hs : s.size ≤ 1073741824) (hC : CtW B C s v op w) (hB : B ≤ C) (hop : ∀ x ∈ op, x ≤ 1099511627776) (hln : op.length ≤ 1099511627776) (hE : ErrIn w) (hle : leB s[p] = false) (h46 : s[p].toNat = 46) (hnm : nameW s.data.toList (p + 1) ≠ []) :
    Calls Tryz.prog 15 #[.pointer (some ⟨C, 0, none⟩), .int .i64 (p : Int)] w fun e w' => CtP B C s v op (tokW s.data.toList op p) w w' e := by
  have HLe := Hid.mk (fun u => w_wLetter s[p] u)
  have HDg := Hid.mk (fun u => w_wDigit s[p] u)
  have HNa := Hid.mk (fun u => w_nameAt s (p + 1) u (by omega) (by omega))
  rw [show ((p + 1 : Nat) : Int) = (p : Int) + 1 by omega] at HNa
  have hgd := getD_byte hp
  have hb0 := below1 w tbox0
  have hC0 := hC.keep hb0
  have hE0 := hE.keep hb0
  have c0 := hC0.box.c0
  have hX00 := heap_alloc_new w tbox0
  have HCl : Hid (∀ w0, CtW B C s v op w0 → Calls Tryz.prog 57 #[.pointer (some ⟨C, 0, none⟩)] w0 fun e w' => e = .returned (.bool (clsB op)) ∧ w' = w0) := fun w0 h => w_closes B C s v op w0 h hln
  have HC := Hid.mk hC
  have HC0 := Hid.mk hC0
  have HB0 := Hid.mk hb0
  have HE0 := Hid.mk hE0
  have HX0 := Hid.mk hX00
  unfold tbox0 at c0
  have hi0 : (0 : Int) ≤ (p : Int) := by omega
  have hi1 : (p : Int) < (s.size : Int) := by omega
  obtain ⟨xi, hxi⟩ : ∃ xi : Int, ((s[p].toNat : Nat) : Int) = xi := ⟨_, rfl⟩
  rw [hxi] at HLe HDg
  have hlt : p < s.data.toList.length := by rw [size_lst]; exact hp
  unfold tokW
  rw [hgd]
  clear hC hC0 hE hE0 hb0 hX00
  rw [if_neg (by rw [hle]; decide)]
  rw [hle] at HLe
  rw [if_neg (by omega), if_pos ⟨h46, hnm⟩]
  obtain rfl : 46 = xi := by omega
  have HM : Hid (Calls Tryz.prog 53 #[.pointer (some ⟨C, 0, none⟩), .int .i64 (p : Int)] (w.alloc tbox0) fun e w' => CtP B C s v op (fieldT s.data.toList p) (w.alloc tbox0) w' e) := (w_cField s p C v _ hp (by omega) HC0.out.box).mono (fun e w' h => ctp_plain HC0.out hB (open_field _ _ _) h)
  unfold tbox0 at HM HC0 HB0 HX0 HE0
  clear HCl HDg
  have g0 : ¬ (⟨(nameW s.data.toList (p + 1)).toArray⟩ : ByteArray).toList = [] := by rw [Lib.toList_data]; exact hnm
  have g0' : (⟨(nameW s.data.toList (p + 1)).toArray⟩ : ByteArray).toList.isEmpty = false := by rw [List.isEmpty_eq_false_iff]; exact g0
  generalize (⟨(nameW s.data.toList (p + 1)).toArray⟩ : ByteArray) = tb at *
  generalize fieldT s.data.toList p = t at *
  obtain ⟨kd, pa, fi, tx, er⟩ := t
  unfold CtP tokV at HM ⊢
  dsimp only at HM ⊢
  go_enter Tryz.func15, Tryz.ntmps15
  go_wp2_with fail
  refine (HLe.out _).mono ?_
  rintro e wq ⟨rfl, hwq⟩
  obtain rfl := hwq.symm
  go_wp2_with fail
  refine (HNa.out _).mono ?_
  rintro e wq ⟨rfl, hwq⟩
  obtain rfl := hwq.symm
  go_wp2_with fail
  refine HM.out.mono ?_
  rintro e w1 ⟨rfl, ⟨v1, hcw⟩, hcl1, hbl⟩
  have hX1 := (hcl1.block w.heap.size (by simp [tbox0]) (Nat.ne_of_gt HC.out.box.lt) (fun e => absurd (own_ltT HC.out.row _ e) (Nat.lt_irrefl _))).trans HX0.out
  have HX := Hid.mk hX1
  have HCW := Hid.mk hcw
  have HCL := Hid.mk hcl1
  have HBL := Hid.mk hbl
  obtain ⟨kc0, kc1, kc2, kc3, kf0, kf1, kf2, kf3⟩ := tbox_cells hX1
  clear hcw hcl1 hbl hX1 c0
  go_wp2_with fail
  (try simp only [Exit.inBlock, Exit.then])
  generalize hz : ((((w1).setCell ⟨w.heap.size, 0, none⟩ (.int .i64 (kd : Int))).setCell ⟨w.heap.size, 1, none⟩ (.int .i64 (pa : Int))).setCell ⟨w.heap.size, 2, none⟩ (.int .i64 (fi : Int))).setCell ⟨w.heap.size, 3, none⟩ (.string ⟨tx.toArray⟩) = wz
  obtain ⟨z1, z2, z3, z4⟩ := box_set4 _ _ _ _ _ _ _ _ _ _ _ HX.out wz hz.symm
  obtain ⟨hd0, hd1, hd2, hd3, _⟩ := tbox_cells z1
  refine bodyPost_ret (v := .tuple #[.agg #[.int .i64 (kd : Int), .int .i64 (pa : Int), .int .i64 (fi : Int), .string ⟨tx.toArray⟩], .int .i64 (er : Int)]) (by simp [results, Tryz.results15, go_sem, hd0, hd1, hd2, hd3]) rfl ?_
  exact ⟨rfl, ctp_close HC.out hB HB0.out HCL.out HBL.out HCW.out HX.out z2 z3 z4⟩

set_option maxRecDepth 100000 in
set_option maxHeartbeats 6400000 in
theorem w_tokD (B C : Nat) (s : ByteArray) (p : Nat) (v : Value) (op : List Nat) (w : World) (hp : p < s.size) (hs : s.size ≤ 1073741824) (hC : CtW B C s v op w) (hB : B ≤ C) (hop : ∀ x ∈ op, x ≤ 1099511627776) (hln : op.length ≤ 1099511627776) (hE : ErrIn w) (hle : leB s[p] = false) (h46 : s[p].toNat = 46) (hnm : nameW s.data.toList (p + 1) = []) :
    Calls Tryz.prog 15 #[.pointer (some ⟨C, 0, none⟩), .int .i64 (p : Int)] w fun e w' => CtP B C s v op (tokW s.data.toList op p) w w' e := by
  have HLe := Hid.mk (fun u => w_wLetter s[p] u)
  have HDg := Hid.mk (fun u => w_wDigit s[p] u)
  have HNa := Hid.mk (fun u => w_nameAt s (p + 1) u (by omega) (by omega))
  rw [show ((p + 1 : Nat) : Int) = (p : Int) + 1 by omega] at HNa
  have hgd := getD_byte hp
  have hb0 := below1 w tbox0
  have hC0 := hC.keep hb0
  have hE0 := hE.keep hb0
  have c0 := hC0.box.c0
  have hX00 := heap_alloc_new w tbox0
  have HCl : Hid (∀ w0, CtW B C s v op w0 → Calls Tryz.prog 57 #[.pointer (some ⟨C, 0, none⟩)] w0 fun e w' => e = .returned (.bool (clsB op)) ∧ w' = w0) := fun w0 h => w_closes B C s v op w0 h hln
  have HC := Hid.mk hC
  have HC0 := Hid.mk hC0
  have HB0 := Hid.mk hb0
  have HE0 := Hid.mk hE0
  have HX0 := Hid.mk hX00
  unfold tbox0 at c0
  have hi0 : (0 : Int) ≤ (p : Int) := by omega
  have hi1 : (p : Int) < (s.size : Int) := by omega
  obtain ⟨xi, hxi⟩ : ∃ xi : Int, ((s[p].toNat : Nat) : Int) = xi := ⟨_, rfl⟩
  rw [hxi] at HLe HDg
  have hlt : p < s.data.toList.length := by rw [size_lst]; exact hp
  unfold tokW
  rw [hgd]
  clear hC hC0 hE hE0 hb0 hX00
  rw [if_neg (by rw [hle]; decide)]
  rw [hle] at HLe
  have hdg : dgB s[p] = false := by unfold dgB; exact decide_eq_false (by omega)
  rw [if_neg (by omega), if_neg (fun h => h.2 hnm), if_neg (by rw [hdg]; decide), if_neg (by omega), if_neg (by omega)]
  rw [hdg] at HDg
  rw [hnm] at HNa
  obtain rfl : 46 = xi := by omega
  have HM : Hid (Calls Tryz.prog 58 #[.pointer (some ⟨C, 0, none⟩), .int .i64 (p : Int)] (w.alloc tbox0) fun e w' => CtP B C s v op (markT s.data.toList p) (w.alloc tbox0) w' e) := w_cMark B C s p v op _ hp (by omega) HC0.out hB hop hln (fun h => by have := mkW_head h hlt; rw [hgd] at this; omega)
  unfold tbox0 at HM HC0 HB0 HX0 HE0
  clear HCl
  generalize markT s.data.toList p = t at *
  obtain ⟨kd, pa, fi, tx, er⟩ := t
  unfold CtP tokV at HM ⊢
  dsimp only at HM ⊢
  go_enter Tryz.func15, Tryz.ntmps15
  go_wp2_with fail
  refine (HLe.out _).mono ?_
  rintro e wq ⟨rfl, hwq⟩
  obtain rfl := hwq.symm
  go_wp2_with fail
  refine (HNa.out _).mono ?_
  rintro e wq ⟨rfl, hwq⟩
  obtain rfl := hwq.symm
  go_wp2_with fail
  refine (HDg.out _).mono ?_
  rintro e wq ⟨rfl, hwq⟩
  obtain rfl := hwq.symm
  go_wp2_with fail
  refine HM.out.mono ?_
  rintro e w1 ⟨rfl, ⟨v1, hcw⟩, hcl1, hbl⟩
  have hX1 := (hcl1.block w.heap.size (by simp [tbox0]) (Nat.ne_of_gt HC.out.box.lt) (fun e => absurd (own_ltT HC.out.row _ e) (Nat.lt_irrefl _))).trans HX0.out
  have HX := Hid.mk hX1
  have HCW := Hid.mk hcw
  have HCL := Hid.mk hcl1
  have HBL := Hid.mk hbl
  obtain ⟨kc0, kc1, kc2, kc3, kf0, kf1, kf2, kf3⟩ := tbox_cells hX1
  clear hcw hcl1 hbl hX1 c0
  go_wp2_with fail
  (try simp only [Exit.inBlock, Exit.then])
  generalize hz : ((((w1).setCell ⟨w.heap.size, 0, none⟩ (.int .i64 (kd : Int))).setCell ⟨w.heap.size, 1, none⟩ (.int .i64 (pa : Int))).setCell ⟨w.heap.size, 2, none⟩ (.int .i64 (fi : Int))).setCell ⟨w.heap.size, 3, none⟩ (.string ⟨tx.toArray⟩) = wz
  obtain ⟨z1, z2, z3, z4⟩ := box_set4 _ _ _ _ _ _ _ _ _ _ _ HX.out wz hz.symm
  obtain ⟨hd0, hd1, hd2, hd3, _⟩ := tbox_cells z1
  refine bodyPost_ret (v := .tuple #[.agg #[.int .i64 (kd : Int), .int .i64 (pa : Int), .int .i64 (fi : Int), .string ⟨tx.toArray⟩], .int .i64 (er : Int)]) (by simp [results, Tryz.results15, go_sem, hd0, hd1, hd2, hd3]) rfl ?_
  exact ⟨rfl, ctp_close HC.out hB HB0.out HCL.out HBL.out HCW.out HX.out z2 z3 z4⟩

end Go.Proofs.YtohclfgghobldaaGreatDoor
