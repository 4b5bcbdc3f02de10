import Derived.Test.YtohclfgghobldaaDoorZKN3
namespace Go.Proofs.YtohclfgghobldaaDoor
open Go.RowKit Go.Shelf
set_option linter.unusedVariables false
set_option linter.unusedSimpArgs false

set_option maxRecDepth 100000 in
set_option maxHeartbeats 6400000 in
theorem w_cNameF (s : ByteArray) (p C : Nat) (v : Value) (w : World) (hp : p < s.size) (hs : s.size ≤ 140737488355328) (hC : CtB w C s v) :
    Calls Tryd.prog 21 #[.pointer (some ⟨C, 0, none⟩), .int .i64 (p : Int)] w fun e w' => TokR (nameT s.data.toList p) w w' e := by
  have HN := Hid.mk (fun u => w_nameAt s p u (by omega) (by omega))
  have HO := Hid.mk (fun u => w_wOwn ⟨(nameW s.data.toList p).toArray⟩ u)
  rw [arr_lst (nameW s.data.toList p)] at HO
  have hln := nameW_len (l := s.data.toList) (p := p) (by rw [size_lst]; omega)
  rw [size_lst] at hln
  have hsz : (⟨(nameW s.data.toList p).toArray⟩ : ByteArray).size = (nameW s.data.toList p).length := arr_size _
  unfold nameT TokR tokV
  dsimp only
  generalize nameW s.data.toList p = nm at *
  obtain ⟨tb, htb⟩ : ∃ tb : ByteArray, (⟨nm.toArray⟩ : ByteArray) = tb := ⟨_, rfl⟩
  rw [htb] at HN HO hsz ⊢
  have HSZ := Hid.mk hsz
  clear htb
  have HR : Hid (((nm.length : Nat) : Int) = (tb.size : Int)) := by show _ = _; rw [hsz]
  have hln2 : p + tb.size ≤ s.size := by rw [hsz]; exact hln
  clear hsz hln
  cases ho : ownB nm with
  | false =>
    rw [ho] at HO
    clear ho
    have HC0 := Hid.mk (hC.low (below1 w tbox0) hC.lt)
    have c0 := HC0.out.c0
    unfold tbox0 at c0
    go_enter Tryd.func21, Tryd.ntmps21
    go_wp2_with fail
    refine (HN.out _).mono ?_
    rintro e w1 ⟨rfl, hw1⟩
    obtain rfl := hw1.symm
    clear c0
    go_wp2_with fail
    refine (HO.out _).mono ?_
    rintro e w1 ⟨rfl, hw1⟩
    obtain rfl := hw1.symm
    obtain ⟨W, hW⟩ : ∃ W, w.alloc tbox0 = W := ⟨_, rfl⟩
    have hX := heap_alloc_new w tbox0
    rw [hW] at hX
    have HX := Hid.mk hX
    have hb := below1 w tbox0
    rw [hW] at hb
    have HB := Hid.mk hb
    obtain ⟨kc0, kc1, kc2, kc3, kf0, kf1, kf2, kf3⟩ := tbox_cells hX
    unfold tbox0 at hW
    rw [hW]
    clear hW hX hb
    go_wp2_with fail
    (try simp only [Exit.inBlock, Exit.then])
    generalize hz : ((((W).setCell ⟨w.heap.size, 0, none⟩ (.int .i64 1)).setCell ⟨w.heap.size, 1, none⟩ (.int .i64 (p : Int))).setCell ⟨w.heap.size, 2, none⟩ (.int .i64 ((p : Int) + (tb.size : Int)))).setCell ⟨w.heap.size, 3, none⟩ (.string tb) = wz
    obtain ⟨z1, z2, z3, z4⟩ := box_set4 _ _ _ _ _ _ _ _ _ _ _ HX.out wz hz.symm
    obtain ⟨hd0, hd1, hd2, hd3, _⟩ := tbox_cells z1
    refine bodyPost_ret (v := .tuple #[.agg #[.int .i64 1, .int .i64 (p : Int), .int .i64 ((p : Int) + (tb.size : Int)), .string tb], .int .i64 0]) (by simp [results, Tryd.results21, go_sem, hd0, hd1, hd2, hd3]) rfl ?_
    exact ⟨by rw [HR.out]; first | done | rfl, HB.out.trans (z4 _ (Nat.le_refl _))⟩
  | true =>
    rw [ho] at HO
    clear ho
    have HC0 := Hid.mk (hC.low (below1 w tbox0) hC.lt)
    have c0 := HC0.out.c0
    unfold tbox0 at c0
    go_enter Tryd.func21, Tryd.ntmps21
    go_wp2_with fail
    refine (HN.out _).mono ?_
    rintro e w1 ⟨rfl, hw1⟩
    obtain rfl := hw1.symm
    clear c0
    go_wp2_with fail
    refine (HO.out _).mono ?_
    rintro e w1 ⟨rfl, hw1⟩
    obtain rfl := hw1.symm
    obtain ⟨W, hW⟩ : ∃ W, w.alloc tbox0 = W := ⟨_, rfl⟩
    have hX := heap_alloc_new w tbox0
    rw [hW] at hX
    have HX := Hid.mk hX
    have hb := below1 w tbox0
    rw [hW] at hb
    have HB := Hid.mk hb
    obtain ⟨kc0, kc1, kc2, kc3, kf0, kf1, kf2, kf3⟩ := tbox_cells hX
    unfold tbox0 at hW
    rw [hW]
    clear hW hX hb
    go_wp2_with fail
    (try simp only [Exit.inBlock, Exit.then])
    generalize hz : ((((W).setCell ⟨w.heap.size, 0, none⟩ (.int .i64 2)).setCell ⟨w.heap.size, 1, none⟩ (.int .i64 (p : Int))).setCell ⟨w.heap.size, 2, none⟩ (.int .i64 ((p : Int) + (tb.size : Int)))).setCell ⟨w.heap.size, 3, none⟩ (.string tb) = wz
    obtain ⟨z1, z2, z3, z4⟩ := box_set4 _ _ _ _ _ _ _ _ _ _ _ HX.out wz hz.symm
    obtain ⟨hd0, hd1, hd2, hd3, _⟩ := tbox_cells z1
    refine bodyPost_ret (v := .tuple #[.agg #[.int .i64 2, .int .i64 (p : Int), .int .i64 ((p : Int) + (tb.size : Int)), .string tb], .int .i64 0]) (by simp [results, Tryd.results21, go_sem, hd0, hd1, hd2, hd3]) rfl ?_
    exact ⟨by rw [HR.out]; first | done | rfl, HB.out.trans (z4 _ (Nat.le_refl _))⟩

set_option maxRecDepth 100000 in
set_option maxHeartbeats 6400000 in
theorem w_tokAF (B C : Nat) (s : ByteArray) (p : Nat) (v : Value) (op : List Nat) (w : World) (hp : p < s.size) (hs : s.size ≤ 140737488355328) (hC : CtW B C s v op w) (hB : B ≤ C) (hln : op.length ≤ 1099511627776) (hE : ErrIn w) (hle : leB s[p] = true) :
    Calls Tryd.prog 13 #[.pointer (some ⟨C, 0, none⟩), .int .i64 (p : Int)] w fun e w' => CtP B C s v op (tokW s.data.toList op p) w w' e := by
  have HLe := Hid.mk (fun u => w_wLetter s[p] u)
  have HDg := Hid.mk (fun u => w_wDigit s[p] u)
  have HNa := Hid.mk (fun u => w_nameAt s (p + 1) u (by omega) (by omega))
  rw [show ((p + 1 : Nat) : Int) = (p : Int) + 1 by omega] at HNa
  have hgd := getD_byte hp
  have hb0 := below1 w tbox0
  have hC0 := hC.keep hb0
  have hE0 := hE.keep hb0
  have c0 := hC0.box.c0
  have hX00 := heap_alloc_new w tbox0
  have HCl : Hid (∀ w0, CtW B C s v op w0 → Calls Tryd.prog 28 #[.pointer (some ⟨C, 0, none⟩)] w0 fun e w' => e = .returned (.bool (clsB op)) ∧ w' = w0) := fun w0 h => w_closes B C s v op w0 h hln
  have HC := Hid.mk hC
  have HC0 := Hid.mk hC0
  have HB0 := Hid.mk hb0
  have HE0 := Hid.mk hE0
  have HX0 := Hid.mk hX00
  unfold tbox0 at c0
  have hi0 : (0 : Int) ≤ (p : Int) := by omega
  have hi1 : (p : Int) < (s.size : Int) := by omega
  obtain ⟨xi, hxi⟩ : ∃ xi : Int, ((s[p].toNat : Nat) : Int) = xi := ⟨_, rfl⟩
  rw [hxi] at HLe HDg
  have hlt : p < s.data.toList.length := by rw [size_lst]; exact hp
  unfold tokW
  rw [hgd]
  clear hC hC0 hE hE0 hb0 hX00
  rw [if_pos hle]
  rw [hle] at HLe
  have HM : Hid (Calls Tryd.prog 21 #[.pointer (some ⟨C, 0, none⟩), .int .i64 (p : Int)] (w.alloc tbox0) fun e w' => CtP B C s v op (nameT s.data.toList p) (w.alloc tbox0) w' e) := (w_cNameF s p C v _ hp (by omega) HC0.out.box).mono (fun e w' h => ctp_plain HC0.out hB (open_name _ _ _) h)
  unfold tbox0 at HM HC0 HB0 HX0 HE0
  clear HCl HNa HDg
  generalize nameT s.data.toList p = t at *
  obtain ⟨kd, pa, fi, tx, er⟩ := t
  unfold CtP tokV at HM ⊢
  dsimp only at HM ⊢
  go_enter Tryd.func13, Tryd.ntmps13
  go_wp2_with fail
  refine (HLe.out _).mono ?_
  rintro e wq ⟨rfl, hwq⟩
  obtain rfl := hwq.symm
  go_wp2_with fail
  refine HM.out.mono ?_
  rintro e w1 ⟨rfl, ⟨v1, hcw⟩, hcl1, hbl⟩
  have hX1 := (hcl1.block w.heap.size (by simp [tbox0]) (Nat.ne_of_gt HC.out.box.lt) (fun e => absurd (own_ltT HC.out.row _ e) (Nat.lt_irrefl _))).trans HX0.out
  have HX := Hid.mk hX1
  have HCW := Hid.mk hcw
  have HCL := Hid.mk hcl1
  have HBL := Hid.mk hbl
  obtain ⟨kc0, kc1, kc2, kc3, kf0, kf1, kf2, kf3⟩ := tbox_cells hX1
  clear hcw hcl1 hbl hX1 c0
  go_wp2_with fail
  (try simp only [Exit.inBlock, Exit.then])
  generalize hz : ((((w1).setCell ⟨w.heap.size, 0, none⟩ (.int .i64 (kd : Int))).setCell ⟨w.heap.size, 1, none⟩ (.int .i64 (pa : Int))).setCell ⟨w.heap.size, 2, none⟩ (.int .i64 (fi : Int))).setCell ⟨w.heap.size, 3, none⟩ (.string ⟨tx.toArray⟩) = wz
  obtain ⟨z1, z2, z3, z4⟩ := box_set4 _ _ _ _ _ _ _ _ _ _ _ HX.out wz hz.symm
  obtain ⟨hd0, hd1, hd2, hd3, _⟩ := tbox_cells z1
  refine bodyPost_ret (v := .tuple #[.agg #[.int .i64 (kd : Int), .int .i64 (pa : Int), .int .i64 (fi : Int), .string ⟨tx.toArray⟩], .int .i64 (er : Int)]) (by simp [results, Tryd.results13, go_sem, hd0, hd1, hd2, hd3]) rfl ?_
  exact ⟨rfl, ctp_close HC.out hB HB0.out HCL.out HBL.out HCW.out HX.out z2 z3 z4⟩

end Go.Proofs.YtohclfgghobldaaDoor
