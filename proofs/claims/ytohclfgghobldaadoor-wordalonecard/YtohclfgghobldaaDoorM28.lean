import Derived.Test.YtohclfgghobldaaDoorM25
import Derived.Test.YtohclfgghobldaaDoorM27
namespace Go.Proofs.YtohclfgghobldaaDoor
open Go.RowKit
set_option linter.unusedVariables false
set_option linter.unusedSimpArgs false

set_option maxRecDepth 100000 in
set_option maxHeartbeats 6400000 in
theorem w_tokG (B C : Nat) (s : ByteArray) (p : Nat) (v : Value) (op : List Nat) (w : World) (hp : p < s.size) (hs : s.size ≤ 1073741824) (hC : CtW B C s v op w) (hB : B ≤ C) (hop : ∀ x ∈ op, x ≤ 1099511627776) (hln : op.length ≤ 1099511627776) (hE : ErrIn w) (hle : leB s[p] = false) (h36 : ¬ s[p].toNat = 36) (h46 : ¬ s[p].toNat = 46) (hdg : dgB s[p] = false) (h34 : ¬ s[p].toNat = 34) (h41 : s[p].toNat = 41) (hcls : clsB op = true) :
    Calls Tryd.prog 13 #[.pointer (some ⟨C, 0, none⟩), .int .i64 (p : Int)] w fun e w' => CtP B C s v op (tokW s.data.toList op p) w w' e := by
  have HLe := Hid.mk (fun u => w_wLetter s[p] u)
  have HDg := Hid.mk (fun u => w_wDigit s[p] u)
  have HNa := Hid.mk (fun u => w_nameAt s (p + 1) u (by omega) (by omega))
  rw [show ((p + 1 : Nat) : Int) = (p : Int) + 1 by omega] at HNa
  have hgd := getD_byte hp
  have hb0 := below1 w tbox0
  have hC0 := hC.keep hb0
  have hE0 := hE.keep hb0
  have c0 := hC0.box.c0
  have hX00 := heap_alloc_new w tbox0
  have HCl : Hid (∀ w0, CtW B C s v op w0 → Calls Tryd.prog 28 #[.pointer (some ⟨C, 0, none⟩)] w0 fun e w' => e = .returned (.bool (clsB op)) ∧ w' = w0) := fun w0 h => w_closes B C s v op w0 h hln
  have HC := Hid.mk hC
  have HC0 := Hid.mk hC0
  have HB0 := Hid.mk hb0
  have HE0 := Hid.mk hE0
  have HX0 := Hid.mk hX00
  unfold tbox0 at c0
  have hi0 : (0 : Int) ≤ (p : Int) := by omega
  have hi1 : (p : Int) < (s.size : Int) := by omega
  obtain ⟨xi, hxi⟩ : ∃ xi : Int, ((s[p].toNat : Nat) : Int) = xi := ⟨_, rfl⟩
  rw [hxi] at HLe HDg
  have hlt : p < s.data.toList.length := by rw [size_lst]; exact hp
  unfold tokW
  rw [hgd]
  clear hC hC0 hE hE0 hb0 hX00
  rw [if_neg (by rw [hle]; decide)]
  rw [hle] at HLe
  rw [if_neg h36]
  rw [if_neg (fun h => h46 h.1)]
  have i36 : ¬ xi = 36 := by omega
  have i46 : ¬ xi = 46 := by omega
  rw [if_neg (by rw [hdg]; decide)]
  rw [hdg] at HDg
  rw [if_neg h34]
  have i34 : ¬ xi = 34 := by omega
  rw [if_pos ⟨h41, hcls⟩]
  rw [hcls] at HCl
  obtain rfl : 41 = xi := by omega
  have HM : Hid (Calls Tryd.prog 27 #[.pointer (some ⟨C, 0, none⟩), .int .i64 (p : Int), .int .i64 9, .int .i64 8] (w.alloc tbox0) fun e w' => CtP B C s v op (pieceW s.data.toList p 9 8) (w.alloc tbox0) w' e) := w_cMore B C s p v op _ hp hs HC0.out hB hln (cls_ne hcls) HE0.out
  unfold tbox0 at HM HC0 HB0 HX0 HE0
  clear HNa
  generalize pieceW s.data.toList p 9 8 = t at *
  obtain ⟨kd, pa, fi, tx, er⟩ := t
  unfold CtP tokV at HM ⊢
  dsimp only at HM ⊢
  go_enter Tryd.func13, Tryd.ntmps13
  go_wp2_with fail
  refine (HLe.out _).mono ?_
  rintro e wq ⟨rfl, hwq⟩
  obtain rfl := hwq.symm
  go_wp2_with fail
  refine (HDg.out _).mono ?_
  rintro e wq ⟨rfl, hwq⟩
  obtain rfl := hwq.symm
  go_wp2_with fail
  refine (HCl.out _ HC0.out).mono ?_
  rintro e wq ⟨rfl, hwq⟩
  obtain rfl := hwq.symm
  go_wp2_with fail
  refine HM.out.mono ?_
  rintro e w1 ⟨rfl, ⟨v1, hcw⟩, hcl1, hbl⟩
  have hX1 := (hcl1.block w.heap.size (by simp [tbox0]) (Nat.ne_of_gt HC.out.box.lt) (fun e => absurd (own_ltT HC.out.row _ e) (Nat.lt_irrefl _))).trans HX0.out
  have HX := Hid.mk hX1
  have HCW := Hid.mk hcw
  have HCL := Hid.mk hcl1
  have HBL := Hid.mk hbl
  obtain ⟨kc0, kc1, kc2, kc3, kf0, kf1, kf2, kf3⟩ := tbox_cells hX1
  clear hcw hcl1 hbl hX1 c0
  go_wp2_with fail
  (try simp only [Exit.inBlock, Exit.then])
  generalize hz : ((((w1).setCell ⟨w.heap.size, 0, none⟩ (.int .i64 (kd : Int))).setCell ⟨w.heap.size, 1, none⟩ (.int .i64 (pa : Int))).setCell ⟨w.heap.size, 2, none⟩ (.int .i64 (fi : Int))).setCell ⟨w.heap.size, 3, none⟩ (.string ⟨tx.toArray⟩) = wz
  obtain ⟨z1, z2, z3, z4⟩ := box_set4 _ _ _ _ _ _ _ _ _ _ _ HX.out wz hz.symm
  obtain ⟨hd0, hd1, hd2, hd3, _⟩ := tbox_cells z1
  refine bodyPost_ret (v := .tuple #[.agg #[.int .i64 (kd : Int), .int .i64 (pa : Int), .int .i64 (fi : Int), .string ⟨tx.toArray⟩], .int .i64 (er : Int)]) (by simp [results, Tryd.results13, go_sem, hd0, hd1, hd2, hd3]) rfl ?_
  exact ⟨rfl, ctp_close HC.out hB HB0.out HCL.out HBL.out HCW.out HX.out z2 z3 z4⟩

set_option maxRecDepth 100000 in
set_option maxHeartbeats 6400000 in
theorem w_tokH (B C : Nat) (s : ByteArray) (p : Nat) (v : Value) (op : List Nat) (w : World) (hp : p < s.size) (hs : s.size ≤ 1073741824) (hC : CtW B C s v op w) (hB : B ≤ C) (hop : ∀ x ∈ op, x ≤ 1099511627776) (hln : op.length ≤ 1099511627776) (hE : ErrIn w) (hle : leB s[p] = false) (h36 : ¬ s[p].toNat = 36) (h46 : ¬ s[p].toNat = 46) (hdg : dgB s[p] = false) (h34 : ¬ s[p].toNat = 34) (h41 : s[p].toNat = 41) (hcls : clsB op = false) :
    Calls Tryd.prog 13 #[.pointer (some ⟨C, 0, none⟩), .int .i64 (p : Int)] w fun e w' => CtP B C s v op (tokW s.data.toList op p) w w' e := by
  have HLe := Hid.mk (fun u => w_wLetter s[p] u)
  have HDg := Hid.mk (fun u => w_wDigit s[p] u)
  have HNa := Hid.mk (fun u => w_nameAt s (p + 1) u (by omega) (by omega))
  rw [show ((p + 1 : Nat) : Int) = (p : Int) + 1 by omega] at HNa
  have hgd := getD_byte hp
  have hb0 := below1 w tbox0
  have hC0 := hC.keep hb0
  have hE0 := hE.keep hb0
  have c0 := hC0.box.c0
  have hX00 := heap_alloc_new w tbox0
  have HCl : Hid (∀ w0, CtW B C s v op w0 → Calls Tryd.prog 28 #[.pointer (some ⟨C, 0, none⟩)] w0 fun e w' => e = .returned (.bool (clsB op)) ∧ w' = w0) := fun w0 h => w_closes B C s v op w0 h hln
  have HC := Hid.mk hC
  have HC0 := Hid.mk hC0
  have HB0 := Hid.mk hb0
  have HE0 := Hid.mk hE0
  have HX0 := Hid.mk hX00
  unfold tbox0 at c0
  have hi0 : (0 : Int) ≤ (p : Int) := by omega
  have hi1 : (p : Int) < (s.size : Int) := by omega
  obtain ⟨xi, hxi⟩ : ∃ xi : Int, ((s[p].toNat : Nat) : Int) = xi := ⟨_, rfl⟩
  rw [hxi] at HLe HDg
  have hlt : p < s.data.toList.length := by rw [size_lst]; exact hp
  unfold tokW
  rw [hgd]
  clear hC hC0 hE hE0 hb0 hX00
  rw [if_neg (by rw [hle]; decide)]
  rw [hle] at HLe
  rw [if_neg h36]
  rw [if_neg (fun h => h46 h.1)]
  have i36 : ¬ xi = 36 := by omega
  have i46 : ¬ xi = 46 := by omega
  rw [if_neg (by rw [hdg]; decide)]
  rw [hdg] at HDg
  rw [if_neg h34]
  have i34 : ¬ xi = 34 := by omega
  rw [if_neg (fun h => by rw [hcls] at h; exact absurd h.2 (by decide))]
  rw [hcls] at HCl
  obtain rfl : 41 = xi := by omega
  have HM : Hid (Calls Tryd.prog 29 #[.pointer (some ⟨C, 0, none⟩), .int .i64 (p : Int)] (w.alloc tbox0) fun e w' => CtP B C s v op (markT s.data.toList p) (w.alloc tbox0) w' e) := w_cMark B C s p v op _ hp (by omega) HC0.out hB hop hln (fun _ => hcls)
  unfold tbox0 at HM HC0 HB0 HX0 HE0
  clear HNa
  generalize markT s.data.toList p = t at *
  obtain ⟨kd, pa, fi, tx, er⟩ := t
  unfold CtP tokV at HM ⊢
  dsimp only at HM ⊢
  go_enter Tryd.func13, Tryd.ntmps13
  go_wp2_with fail
  refine (HLe.out _).mono ?_
  rintro e wq ⟨rfl, hwq⟩
  obtain rfl := hwq.symm
  go_wp2_with fail
  refine (HDg.out _).mono ?_
  rintro e wq ⟨rfl, hwq⟩
  obtain rfl := hwq.symm
  go_wp2_with fail
  refine (HCl.out _ HC0.out).mono ?_
  rintro e wq ⟨rfl, hwq⟩
  obtain rfl := hwq.symm
  go_wp2_with fail
  refine HM.out.mono ?_
  rintro e w1 ⟨rfl, ⟨v1, hcw⟩, hcl1, hbl⟩
  have hX1 := (hcl1.block w.heap.size (by simp [tbox0]) (Nat.ne_of_gt HC.out.box.lt) (fun e => absurd (own_ltT HC.out.row _ e) (Nat.lt_irrefl _))).trans HX0.out
  have HX := Hid.mk hX1
  have HCW := Hid.mk hcw
  have HCL := Hid.mk hcl1
  have HBL := Hid.mk hbl
  obtain ⟨kc0, kc1, kc2, kc3, kf0, kf1, kf2, kf3⟩ := tbox_cells hX1
  clear hcw hcl1 hbl hX1 c0
  go_wp2_with fail
  (try simp only [Exit.inBlock, Exit.then])
  generalize hz : ((((w1).setCell ⟨w.heap.size, 0, none⟩ (.int .i64 (kd : Int))).setCell ⟨w.heap.size, 1, none⟩ (.int .i64 (pa : Int))).setCell ⟨w.heap.size, 2, none⟩ (.int .i64 (fi : Int))).setCell ⟨w.heap.size, 3, none⟩ (.string ⟨tx.toArray⟩) = wz
  obtain ⟨z1, z2, z3, z4⟩ := box_set4 _ _ _ _ _ _ _ _ _ _ _ HX.out wz hz.symm
  obtain ⟨hd0, hd1, hd2, hd3, _⟩ := tbox_cells z1
  refine bodyPost_ret (v := .tuple #[.agg #[.int .i64 (kd : Int), .int .i64 (pa : Int), .int .i64 (fi : Int), .string ⟨tx.toArray⟩], .int .i64 (er : Int)]) (by simp [results, Tryd.results13, go_sem, hd0, hd1, hd2, hd3]) rfl ?_
  exact ⟨rfl, ctp_close HC.out hB HB0.out HCL.out HBL.out HCW.out HX.out z2 z3 z4⟩

set_option maxRecDepth 100000 in
set_option maxHeartbeats 6400000 in
theorem w_tokI (B C : Nat) (s : ByteArray) (p : Nat) (v : Value) (op : List Nat) (w : World) (hp : p < s.size) (hs : s.size ≤ 1073741824) (hC : CtW B C s v op w) (hB : B ≤ C) (hop : ∀ x ∈ op, x ≤ 1099511627776) (hln : op.length ≤ 1099511627776) (hE : ErrIn w) (hle : leB s[p] = false) (h36 : ¬ s[p].toNat = 36) (h46 : ¬ s[p].toNat = 46) (hdg : dgB s[p] = false) (h34 : ¬ s[p].toNat = 34) (h41 : ¬ s[p].toNat = 41) :
    Calls Tryd.prog 13 #[.pointer (some ⟨C, 0, none⟩), .int .i64 (p : Int)] w fun e w' => CtP B C s v op (tokW s.data.toList op p) w w' e := by
  have HLe := Hid.mk (fun u => w_wLetter s[p] u)
  have HDg := Hid.mk (fun u => w_wDigit s[p] u)
  have HNa := Hid.mk (fun u => w_nameAt s (p + 1) u (by omega) (by omega))
  rw [show ((p + 1 : Nat) : Int) = (p : Int) + 1 by omega] at HNa
  have hgd := getD_byte hp
  have hb0 := below1 w tbox0
  have hC0 := hC.keep hb0
  have hE0 := hE.keep hb0
  have c0 := hC0.box.c0
  have hX00 := heap_alloc_new w tbox0
  have HCl : Hid (∀ w0, CtW B C s v op w0 → Calls Tryd.prog 28 #[.pointer (some ⟨C, 0, none⟩)] w0 fun e w' => e = .returned (.bool (clsB op)) ∧ w' = w0) := fun w0 h => w_closes B C s v op w0 h hln
  have HC := Hid.mk hC
  have HC0 := Hid.mk hC0
  have HB0 := Hid.mk hb0
  have HE0 := Hid.mk hE0
  have HX0 := Hid.mk hX00
  unfold tbox0 at c0
  have hi0 : (0 : Int) ≤ (p : Int) := by omega
  have hi1 : (p : Int) < (s.size : Int) := by omega
  obtain ⟨xi, hxi⟩ : ∃ xi : Int, ((s[p].toNat : Nat) : Int) = xi := ⟨_, rfl⟩
  rw [hxi] at HLe HDg
  have hlt : p < s.data.toList.length := by rw [size_lst]; exact hp
  unfold tokW
  rw [hgd]
  clear hC hC0 hE hE0 hb0 hX00
  rw [if_neg (by rw [hle]; decide)]
  rw [hle] at HLe
  rw [if_neg h36]
  rw [if_neg (fun h => h46 h.1)]
  have i36 : ¬ xi = 36 := by omega
  have i46 : ¬ xi = 46 := by omega
  rw [if_neg (by rw [hdg]; decide)]
  rw [hdg] at HDg
  rw [if_neg h34]
  have i34 : ¬ xi = 34 := by omega
  rw [if_neg (fun h => h41 h.1)]
  have i41 : ¬ xi = 41 := by omega
  have HM : Hid (Calls Tryd.prog 29 #[.pointer (some ⟨C, 0, none⟩), .int .i64 (p : Int)] (w.alloc tbox0) fun e w' => CtP B C s v op (markT s.data.toList p) (w.alloc tbox0) w' e) := w_cMark B C s p v op _ hp (by omega) HC0.out hB hop hln (fun h => absurd (by have := mkW_head h hlt; rw [hgd] at this; exact this) h41)
  unfold tbox0 at HM HC0 HB0 HX0 HE0
  clear HNa HCl
  generalize markT s.data.toList p = t at *
  obtain ⟨kd, pa, fi, tx, er⟩ := t
  unfold CtP tokV at HM ⊢
  dsimp only at HM ⊢
  go_enter Tryd.func13, Tryd.ntmps13
  go_wp2_with fail
  refine (HLe.out _).mono ?_
  rintro e wq ⟨rfl, hwq⟩
  obtain rfl := hwq.symm
  go_wp2_with fail
  refine (HDg.out _).mono ?_
  rintro e wq ⟨rfl, hwq⟩
  obtain rfl := hwq.symm
  go_wp2_with fail
  refine HM.out.mono ?_
  rintro e w1 ⟨rfl, ⟨v1, hcw⟩, hcl1, hbl⟩
  have hX1 := (hcl1.block w.heap.size (by simp [tbox0]) (Nat.ne_of_gt HC.out.box.lt) (fun e => absurd (own_ltT HC.out.row _ e) (Nat.lt_irrefl _))).trans HX0.out
  have HX := Hid.mk hX1
  have HCW := Hid.mk hcw
  have HCL := Hid.mk hcl1
  have HBL := Hid.mk hbl
  obtain ⟨kc0, kc1, kc2, kc3, kf0, kf1, kf2, kf3⟩ := tbox_cells hX1
  clear hcw hcl1 hbl hX1 c0
  go_wp2_with fail
  (try simp only [Exit.inBlock, Exit.then])
  generalize hz : ((((w1).setCell ⟨w.heap.size, 0, none⟩ (.int .i64 (kd : Int))).setCell ⟨w.heap.size, 1, none⟩ (.int .i64 (pa : Int))).setCell ⟨w.heap.size, 2, none⟩ (.int .i64 (fi : Int))).setCell ⟨w.heap.size, 3, none⟩ (.string ⟨tx.toArray⟩) = wz
  obtain ⟨z1, z2, z3, z4⟩ := box_set4 _ _ _ _ _ _ _ _ _ _ _ HX.out wz hz.symm
  obtain ⟨hd0, hd1, hd2, hd3, _⟩ := tbox_cells z1
  refine bodyPost_ret (v := .tuple #[.agg #[.int .i64 (kd : Int), .int .i64 (pa : Int), .int .i64 (fi : Int), .string ⟨tx.toArray⟩], .int .i64 (er : Int)]) (by simp [results, Tryd.results13, go_sem, hd0, hd1, hd2, hd3]) rfl ?_
  exact ⟨rfl, ctp_close HC.out hB HB0.out HCL.out HBL.out HCW.out HX.out z2 z3 z4⟩

end Go.Proofs.YtohclfgghobldaaDoor
namespace Go.Proofs.YtohclfgghobldaaDoor
open Go.RowKit
set_option linter.unusedVariables false
set_option linter.unusedSimpArgs false

theorem w_token (B C : Nat) (s : ByteArray) (p : Nat) (v : Value) (op : List Nat) (w : World) (hp : p < s.size) (hs : s.size ≤ 1073741824) (hC : CtW B C s v op w) (hB : B ≤ C) (hop : ∀ x ∈ op, x ≤ 1099511627776) (hln : op.length ≤ 1099511627776) (hE : ErrIn w) :
    Calls Tryd.prog 13 #[.pointer (some ⟨C, 0, none⟩), .int .i64 (p : Int)] w fun e w' => CtP B C s v op (tokW s.data.toList op p) w w' e := by
  cases hle : leB s[p] with
  | true => exact w_tokA B C s p v op w hp hs hC hB hop hln hE hle
  | false =>
    by_cases h36 : s[p].toNat = 36
    · exact w_tokB B C s p v op w hp hs hC hB hop hln hE hle h36
    by_cases h46 : s[p].toNat = 46
    · by_cases hnm : nameW s.data.toList (p + 1) = []
      · exact w_tokD B C s p v op w hp hs hC hB hop hln hE hle h46 hnm
      · exact w_tokC B C s p v op w hp hs hC hB hop hln hE hle h46 hnm
    cases hdg : dgB s[p] with
    | true => exact w_tokE B C s p v op w hp hs hC hB hop hln hE hle h36 h46 hdg
    | false =>
      by_cases h34 : s[p].toNat = 34
      · exact w_tokF B C s p v op w hp hs hC hB hop hln hE hle h36 h46 hdg h34
      by_cases h41 : s[p].toNat = 41
      · cases hcls : clsB op with
        | true => exact w_tokG B C s p v op w hp hs hC hB hop hln hE hle h36 h46 hdg h34 h41 hcls
        | false => exact w_tokH B C s p v op w hp hs hC hB hop hln hE hle h36 h46 hdg h34 h41 hcls
      · exact w_tokI B C s p v op w hp hs hC hB hop hln hE hle h36 h46 hdg h34 h41
end Go.Proofs.YtohclfgghobldaaDoor
