import Derived.Test.YtohclfgghobldaaGreatDoorM36
import Derived.Test.YtohclfgghobldaaGreatDoorM38
import Derived.Test.YtohclfgghobldaaGreatDoorM39
import Derived.Test.YtohclfgghobldaaGreatDoorM20
import Derived.Test.YtohclfgghobldaaGreatDoorM40
namespace Go.Proofs.YtohclfgghobldaaGreatDoor
open Go.RowKit Go.Shelf
set_option linter.unusedVariables false
set_option linter.unusedSimpArgs false

/-- the name of a name is itself -/
theorem named_name {l : List UInt8} {q : Nat} (hq : q < l.length) (h : leB (l.getD q 0) = true) : namedB (nameW l q) = true := by
  have hbe := bhP_ge inB (l := l) (p := q) (by omega)
  have hgt := bhP_gt (P := inB) hq (by unfold inB; rw [h]; rfl)
  have hn : nameW l q = cut l q (bhP inB l q) := by unfold nameW; rw [if_pos ⟨hq, h⟩]
  have hin := fun j (h1 : q ≤ j) (h2 : j < bhP inB l q) => bhP_in (P := inB) (l := l) _ q j (Nat.le_refl _) (by omega) h1 h2
  rw [hn]
  generalize bhP inB l q = e at *
  have hl : (cut l q e).length = e - q := cut_len hbe.2
  have hgd : ∀ j, j < e - q → (cut l q e).getD j 0 = l.getD (q + j) 0 := fun j hj => by
    unfold cut
    simp [List.getD, List.getElem?_take, hj, List.getElem?_drop]
  have hne : cut l q e ≠ [] := fun e2 => by rw [e2] at hl; simp at hl; omega
  rw [namedB_of hne (by rw [hgd 0 (by omega), Nat.add_zero]; exact h)]
  apply decide_eq_true
  have hall : ∀ k, k ≤ e - q → bhP inB (cut l q e) 0 = bhP inB (cut l q e) k := by
    intro k
    induction k with
    | zero => intro _; rfl
    | succ k ih =>
      intro hk
      rw [ih (by omega), bhP_step (by omega) (by rw [hgd k (by omega)]; exact hin _ (by omega) (by omega))]
  rw [hall (e - q) (Nat.le_refl _), ← hl, bhP_end]
theorem plain_name {l : List UInt8} {q : Nat} : plainW (nameW l q) = (decide (q < l.length ∧ leB (l.getD q 0) = true) && !ownB (nameW l q)) := by
  unfold plainW
  by_cases h : q < l.length ∧ leB (l.getD q 0) = true
  · rw [named_name h.1 h.2, decide_eq_true h]
  · rw [decide_eq_false h]
    have hn : nameW l q = [] := by unfold nameW; rw [if_neg h]
    rw [hn]; rfl
/-- the tokens that are no texts -/
def plT (l : List UInt8) (p : Nat) : Tok :=
  if leB (l.getD p 0) = true then nameT l p
  else if (l.getD p 0).toNat = 36 then varT l p
  else if (l.getD p 0).toNat = 46 ∧ nameW l (p + 1) ≠ [] then fieldT l p
  else if dgB (l.getD p 0) = true then numT16 l p
  else markT l p
theorem plT_eq {l : List UInt8} {op : List Nat} {p : Nat} (h34 : (l.getD p 0).toNat ≠ 34) (hcl : ¬ ((l.getD p 0).toNat = 41 ∧ clsB op = true)) : tokW l op p = plT l p := by
  unfold tokW plT
  rw [if_neg h34, if_neg hcl]
/-- how the reference tells one -/
def PlR (t : Tok) (p : Nat) (w w' : World) (e : Ending) : Prop := ((t.err = 0 ∧ e = .returned (.tuple #[tokV t, .int .i64 0])) ∨ (t.err ≠ 0 ∧ t.at_ = p ∧ e = .returned (.tuple #[tokV ⟨0, 0, 0, [], 0⟩, .int .i64 (t.err : Int)]))) ∧ Below w.heap.size w w'

set_option maxRecDepth 100000 in
set_option maxHeartbeats 6400000 in
theorem w_plA (s : ByteArray) (p : Nat) (w : World) (hp : p < s.size) (hs : s.size ≤ 1073741824) (hle : leB s[p] = true) :
    Calls Tryz.prog 13 #[.string s, .int .i64 (p : Int)] w fun e w' => PlR (plT s.data.toList p) p w w' e := by
  have HLe := Hid.mk (fun u => w_rLetter s[p] u)
  have HDg := Hid.mk (fun u => w_rDigit s[p] u)
  have hgd := getD_byte hp
  have hi0 : (0 : Int) ≤ (p : Int) := by omega
  have hi1 : (p : Int) < (s.size : Int) := by omega
  obtain ⟨xi, hxi⟩ : ∃ xi : Int, ((s[p].toNat : Nat) : Int) = xi := ⟨_, rfl⟩
  rw [hxi] at HLe HDg
  have hlt : p < s.data.toList.length := by rw [size_lst]; exact hp
  unfold plT
  rw [hgd]
  rw [if_pos hle]
  rw [hle] at HLe
  unfold nameT
  have HNE := Hid.mk (fun u => w_nameEnd s p u (by omega) (by omega))
  have hbe := bhP_ge inB (l := s.data.toList) (p := p) (by rw [size_lst]; omega)
  have hnW : nameW s.data.toList p = cut s.data.toList p (bhP inB s.data.toList p) := by unfold nameW; rw [if_pos ⟨hlt, by rw [hgd]; exact hle⟩]
  have HXT := Hid.mk (ext_cut s p (bhP inB s.data.toList p) (by rw [← size_lst]; exact hbe.2))
  have hcl := cut_len (l := s.data.toList) (a := p) hbe.2
  rw [size_lst] at hbe
  rw [← hnW] at HXT hcl
  have HRs := Hid.mk (fun u => w_rReserved (s.extract p (bhP inB s.data.toList p)) u)
  rw [show (s.extract p (bhP inB s.data.toList p)).data.toList = nameW s.data.toList p by rw [HXT.out]] at HRs
  clear hnW
  generalize nameW s.data.toList p = nm at *
  generalize bhP inB s.data.toList p = q at *
  obtain ⟨hpq, hqs⟩ := hbe
  have hj1 : (p : Int) ≤ (q : Int) := by omega
  have hj2 : (q : Int) ≤ (s.size : Int) := by omega
  have HCL := Hid.mk hcl
  clear hcl
  cases ho : ownB nm with
  | false =>
    rw [ho] at HRs
    clear ho
    go_enter Tryz.func13, Tryz.ntmps13
    go_wp2_with fail
    refine (HLe.out _).mono ?_
    rintro e wq ⟨rfl, hwq⟩
    obtain rfl := hwq.symm
    go_wp2_with fail
    refine (HNE.out _).mono ?_
    rintro e wq ⟨rfl, hwq⟩
    obtain rfl := hwq.symm
    go_wp2_with fail
    refine (HRs.out _).mono ?_
    rintro e wq ⟨rfl, hwq⟩
    obtain rfl := hwq.symm
    obtain ⟨W, hW⟩ : ∃ W, w.alloc tbox0 = W := ⟨_, rfl⟩
    have hX := heap_alloc_new w tbox0
    rw [hW] at hX
    have HX := Hid.mk hX
    have hb := below1 w tbox0
    rw [hW] at hb
    have HB := Hid.mk hb
    obtain ⟨kc0, kc1, kc2, kc3, kf0, kf1, kf2, kf3⟩ := tbox_cells hX
    unfold tbox0 at hW
    (try rw [hW])
    clear hX hb
    go_wp2_with fail
    (try simp only [Exit.inBlock, Exit.then])
    generalize hz : ((((W).setCell ⟨w.heap.size, 0, none⟩ (.int .i64 1)).setCell ⟨w.heap.size, 1, none⟩ (.int .i64 (p : Int))).setCell ⟨w.heap.size, 2, none⟩ (.int .i64 (q : Int))).setCell ⟨w.heap.size, 3, none⟩ (.string (s.extract p q)) = wz
    obtain ⟨z1, z2, z3, z4⟩ := box_set4 _ _ _ _ _ _ _ _ _ _ _ HX.out wz hz.symm
    obtain ⟨hd0, hd1, hd2, hd3, _⟩ := tbox_cells z1
    refine bodyPost_ret (v := .tuple #[.agg #[.int .i64 1, .int .i64 (p : Int), .int .i64 (q : Int), .string (s.extract p q)], .int .i64 0]) (by simp [results, Tryz.results13, go_sem, hd0, hd1, hd2, hd3]) rfl ?_
    refine ⟨.inl ⟨rfl, ?_⟩, HB.out.trans (z4 _ (Nat.le_refl _))⟩
    unfold tokV
    dsimp only
    rw [← HXT.out, show p + nm.length = q by rw [HCL.out]; omega]
    first | rfl | simp
  | true =>
    rw [ho] at HRs
    clear ho
    go_enter Tryz.func13, Tryz.ntmps13
    go_wp2_with fail
    refine (HLe.out _).mono ?_
    rintro e wq ⟨rfl, hwq⟩
    obtain rfl := hwq.symm
    go_wp2_with fail
    refine (HNE.out _).mono ?_
    rintro e wq ⟨rfl, hwq⟩
    obtain rfl := hwq.symm
    go_wp2_with fail
    refine (HRs.out _).mono ?_
    rintro e wq ⟨rfl, hwq⟩
    obtain rfl := hwq.symm
    obtain ⟨W, hW⟩ : ∃ W, w.alloc tbox0 = W := ⟨_, rfl⟩
    have hX := heap_alloc_new w tbox0
    rw [hW] at hX
    have HX := Hid.mk hX
    have hb := below1 w tbox0
    rw [hW] at hb
    have HB := Hid.mk hb
    obtain ⟨kc0, kc1, kc2, kc3, kf0, kf1, kf2, kf3⟩ := tbox_cells hX
    unfold tbox0 at hW
    (try rw [hW])
    clear hX hb
    go_wp2_with fail
    (try simp only [Exit.inBlock, Exit.then])
    generalize hz : ((((W).setCell ⟨w.heap.size, 0, none⟩ (.int .i64 2)).setCell ⟨w.heap.size, 1, none⟩ (.int .i64 (p : Int))).setCell ⟨w.heap.size, 2, none⟩ (.int .i64 (q : Int))).setCell ⟨w.heap.size, 3, none⟩ (.string (s.extract p q)) = wz
    obtain ⟨z1, z2, z3, z4⟩ := box_set4 _ _ _ _ _ _ _ _ _ _ _ HX.out wz hz.symm
    obtain ⟨hd0, hd1, hd2, hd3, _⟩ := tbox_cells z1
    refine bodyPost_ret (v := .tuple #[.agg #[.int .i64 2, .int .i64 (p : Int), .int .i64 (q : Int), .string (s.extract p q)], .int .i64 0]) (by simp [results, Tryz.results13, go_sem, hd0, hd1, hd2, hd3]) rfl ?_
    refine ⟨.inl ⟨rfl, ?_⟩, HB.out.trans (z4 _ (Nat.le_refl _))⟩
    unfold tokV
    dsimp only
    rw [← HXT.out, show p + nm.length = q by rw [HCL.out]; omega]
    first | rfl | simp

end Go.Proofs.YtohclfgghobldaaGreatDoor
namespace Go.Proofs.YtohclfgghobldaaGreatDoor
open Go.RowKit Go.Shelf
set_option linter.unusedVariables false
set_option linter.unusedSimpArgs false

set_option maxRecDepth 100000 in
set_option maxHeartbeats 6400000 in
theorem w_plB (s : ByteArray) (p : Nat) (w : World) (hp : p < s.size) (hs : s.size ≤ 1073741824) (hle : leB s[p] = false) (hc : s[p].toNat = 36) (h1 : p + 1 < s.size) (hl1 : leB s[p + 1] = true) :
    Calls Tryz.prog 13 #[.string s, .int .i64 (p : Int)] w fun e w' => PlR (plT s.data.toList p) p w w' e := by
  have HLe := Hid.mk (fun u => w_rLetter s[p] u)
  have HDg := Hid.mk (fun u => w_rDigit s[p] u)
  have hgd := getD_byte hp
  have hi0 : (0 : Int) ≤ (p : Int) := by omega
  have hi1 : (p : Int) < (s.size : Int) := by omega
  obtain ⟨xi, hxi⟩ : ∃ xi : Int, ((s[p].toNat : Nat) : Int) = xi := ⟨_, rfl⟩
  rw [hxi] at HLe HDg
  have hlt : p < s.data.toList.length := by rw [size_lst]; exact hp
  unfold plT
  rw [hgd]
  rw [if_neg (by rw [hle]; decide)]
  rw [hle] at HLe
  have hgd1 := getD_byte h1
  have hlt1 : p + 1 < s.data.toList.length := by rw [size_lst]; exact h1
  have hi2 : (p : Int) + 1 < (s.size : Int) := by omega
  have hi3 : (0 : Int) ≤ (p : Int) + 1 := by omega
  have HL1 := Hid.mk (fun u => w_rLetter s[p + 1] u)
  rw [hl1] at HL1
  rw [if_pos hc]
  unfold varT
  rw [plain_name, decide_eq_true ⟨hlt1, by rw [hgd1]; exact hl1⟩, Bool.true_and]
  obtain rfl : 36 = xi := by omega
  have HNE := Hid.mk (fun u => w_nameEnd s (p + 1) u (by omega) (by omega))
  have hbe := bhP_ge inB (l := s.data.toList) (p := (p + 1)) (by rw [size_lst]; omega)
  have hnW : nameW s.data.toList (p + 1) = cut s.data.toList (p + 1) (bhP inB s.data.toList (p + 1)) := by unfold nameW; rw [if_pos ⟨hlt1, by rw [hgd1]; exact hl1⟩]
  have HXT := Hid.mk (ext_cut s (p + 1) (bhP inB s.data.toList (p + 1)) (by rw [← size_lst]; exact hbe.2))
  have hcl := cut_len (l := s.data.toList) (a := (p + 1)) hbe.2
  rw [size_lst] at hbe
  rw [← hnW] at HXT hcl
  have HRs := Hid.mk (fun u => w_rReserved (s.extract (p + 1) (bhP inB s.data.toList (p + 1))) u)
  rw [show (s.extract (p + 1) (bhP inB s.data.toList (p + 1))).data.toList = nameW s.data.toList (p + 1) by rw [HXT.out]] at HRs
  clear hnW
  generalize nameW s.data.toList (p + 1) = nm at *
  generalize bhP inB s.data.toList (p + 1) = q at *
  obtain ⟨hpq, hqs⟩ := hbe
  have hj1 : (p : Int) + 1 ≤ (q : Int) := by omega
  have hj2 : (q : Int) ≤ (s.size : Int) := by omega
  have HCL := Hid.mk hcl
  clear hcl
  rw [show ((p + 1 : Nat) : Int) = (p : Int) + 1 by omega] at HNE
  cases ho : ownB nm with
  | false =>
    rw [ho] at HRs
    clear ho
    rw [if_pos (by decide)]
    go_enter Tryz.func13, Tryz.ntmps13
    go_wp2_with fail
    refine (HLe.out _).mono ?_
    rintro e wq ⟨rfl, hwq⟩
    obtain rfl := hwq.symm
    go_wp2_with fail
    refine (HL1.out _).mono ?_
    rintro e wq ⟨rfl, hwq⟩
    obtain rfl := hwq.symm
    go_wp2_with fail
    refine (HNE.out _).mono ?_
    rintro e wq ⟨rfl, hwq⟩
    obtain rfl := hwq.symm
    go_wp2_with fail
    refine (HRs.out _).mono ?_
    rintro e wq ⟨rfl, hwq⟩
    obtain rfl := hwq.symm
    obtain ⟨W, hW⟩ : ∃ W, w.alloc tbox0 = W := ⟨_, rfl⟩
    have hX := heap_alloc_new w tbox0
    rw [hW] at hX
    have HX := Hid.mk hX
    have hb := below1 w tbox0
    rw [hW] at hb
    have HB := Hid.mk hb
    obtain ⟨kc0, kc1, kc2, kc3, kf0, kf1, kf2, kf3⟩ := tbox_cells hX
    unfold tbox0 at hW
    (try rw [hW])
    clear hX hb
    go_wp2_with fail
    (try simp only [Exit.inBlock, Exit.then])
    generalize hz : ((((W).setCell ⟨w.heap.size, 0, none⟩ (.int .i64 3)).setCell ⟨w.heap.size, 1, none⟩ (.int .i64 (p : Int))).setCell ⟨w.heap.size, 2, none⟩ (.int .i64 (q : Int))).setCell ⟨w.heap.size, 3, none⟩ (.string (s.extract (p + 1) q)) = wz
    obtain ⟨z1, z2, z3, z4⟩ := box_set4 _ _ _ _ _ _ _ _ _ _ _ HX.out wz hz.symm
    obtain ⟨hd0, hd1, hd2, hd3, _⟩ := tbox_cells z1
    refine bodyPost_ret (v := .tuple #[.agg #[.int .i64 3, .int .i64 (p : Int), .int .i64 (q : Int), .string (s.extract (p + 1) q)], .int .i64 0]) (by simp [results, Tryz.results13, go_sem, hd0, hd1, hd2, hd3]) rfl ?_
    refine ⟨.inl ⟨rfl, ?_⟩, HB.out.trans (z4 _ (Nat.le_refl _))⟩
    unfold tokV
    dsimp only
    rw [← HXT.out, show p + 1 + nm.length = q by rw [HCL.out]; omega]
    first | rfl | simp
  | true =>
    rw [ho] at HRs
    clear ho
    rw [if_neg (by decide)]
    go_enter Tryz.func13, Tryz.ntmps13
    go_wp2_with fail
    refine (HLe.out _).mono ?_
    rintro e wq ⟨rfl, hwq⟩
    obtain rfl := hwq.symm
    go_wp2_with fail
    refine (HL1.out _).mono ?_
    rintro e wq ⟨rfl, hwq⟩
    obtain rfl := hwq.symm
    go_wp2_with fail
    refine (HNE.out _).mono ?_
    rintro e wq ⟨rfl, hwq⟩
    obtain rfl := hwq.symm
    go_wp2_with fail
    refine (HRs.out _).mono ?_
    rintro e wq ⟨rfl, hwq⟩
    obtain rfl := hwq.symm
    obtain ⟨W, hW⟩ : ∃ W, w.alloc tbox0 = W := ⟨_, rfl⟩
    have hX := heap_alloc_new w tbox0
    rw [hW] at hX
    have HX := Hid.mk hX
    have hb := below1 w tbox0
    rw [hW] at hb
    have HB := Hid.mk hb
    obtain ⟨kc0, kc1, kc2, kc3, kf0, kf1, kf2, kf3⟩ := tbox_cells hX
    unfold tbox0 at hW
    (try rw [hW])
    clear hX hb
    go_wp2_with fail
    (try simp only [Exit.inBlock, Exit.then])
    generalize hz : ((((W).setCell ⟨w.heap.size, 0, none⟩ (.int .i64 0)).setCell ⟨w.heap.size, 1, none⟩ (.int .i64 0)).setCell ⟨w.heap.size, 2, none⟩ (.int .i64 0)).setCell ⟨w.heap.size, 3, none⟩ (.string ⟨#[]⟩) = wz
    obtain ⟨z1, z2, z3, z4⟩ := box_set4 _ _ _ _ _ _ _ _ _ _ _ HX.out wz hz.symm
    obtain ⟨hd0, hd1, hd2, hd3, _⟩ := tbox_cells z1
    refine bodyPost_ret (v := .tuple #[.agg #[.int .i64 0, .int .i64 0, .int .i64 0, .string ⟨#[]⟩], .int .i64 160]) (by simp [results, Tryz.results13, go_sem, hd0, hd1, hd2, hd3]) rfl ?_
    exact ⟨.inr ⟨by simp, rfl, rfl⟩, HB.out.trans (z4 _ (Nat.le_refl _))⟩

set_option maxRecDepth 100000 in
set_option maxHeartbeats 6400000 in
theorem w_plC (s : ByteArray) (p : Nat) (w : World) (hp : p < s.size) (hs : s.size ≤ 1073741824) (hle : leB s[p] = false) (hc : s[p].toNat = 46) (h1 : p + 1 < s.size) (hl1 : leB s[p + 1] = true) :
    Calls Tryz.prog 13 #[.string s, .int .i64 (p : Int)] w fun e w' => PlR (plT s.data.toList p) p w w' e := by
  have HLe := Hid.mk (fun u => w_rLetter s[p] u)
  have HDg := Hid.mk (fun u => w_rDigit s[p] u)
  have hgd := getD_byte hp
  have hi0 : (0 : Int) ≤ (p : Int) := by omega
  have hi1 : (p : Int) < (s.size : Int) := by omega
  obtain ⟨xi, hxi⟩ : ∃ xi : Int, ((s[p].toNat : Nat) : Int) = xi := ⟨_, rfl⟩
  rw [hxi] at HLe HDg
  have hlt : p < s.data.toList.length := by rw [size_lst]; exact hp
  unfold plT
  rw [hgd]
  rw [if_neg (by rw [hle]; decide)]
  rw [hle] at HLe
  have hgd1 := getD_byte h1
  have hlt1 : p + 1 < s.data.toList.length := by rw [size_lst]; exact h1
  have hi2 : (p : Int) + 1 < (s.size : Int) := by omega
  have hi3 : (0 : Int) ≤ (p : Int) + 1 := by omega
  have HL1 := Hid.mk (fun u => w_rLetter s[p + 1] u)
  rw [hl1] at HL1
  have hpos := nameW_pos hlt1 (by rw [hgd1]; exact hl1)
  rw [if_neg (by omega), if_pos ⟨hc, fun e => by rw [e] at hpos; simp at hpos⟩]
  unfold fieldT
  clear hpos
  obtain rfl : 46 = xi := by omega
  have HNE := Hid.mk (fun u => w_nameEnd s (p + 1) u (by omega) (by omega))
  have hbe := bhP_ge inB (l := s.data.toList) (p := (p + 1)) (by rw [size_lst]; omega)
  have hnW : nameW s.data.toList (p + 1) = cut s.data.toList (p + 1) (bhP inB s.data.toList (p + 1)) := by unfold nameW; rw [if_pos ⟨hlt1, by rw [hgd1]; exact hl1⟩]
  have HXT := Hid.mk (ext_cut s (p + 1) (bhP inB s.data.toList (p + 1)) (by rw [← size_lst]; exact hbe.2))
  have hcl := cut_len (l := s.data.toList) (a := (p + 1)) hbe.2
  rw [size_lst] at hbe
  rw [← hnW] at HXT hcl
  have HRs := Hid.mk (fun u => w_rReserved (s.extract (p + 1) (bhP inB s.data.toList (p + 1))) u)
  rw [show (s.extract (p + 1) (bhP inB s.data.toList (p + 1))).data.toList = nameW s.data.toList (p + 1) by rw [HXT.out]] at HRs
  clear hnW
  generalize nameW s.data.toList (p + 1) = nm at *
  generalize bhP inB s.data.toList (p + 1) = q at *
  obtain ⟨hpq, hqs⟩ := hbe
  have hj1 : (p : Int) + 1 ≤ (q : Int) := by omega
  have hj2 : (q : Int) ≤ (s.size : Int) := by omega
  have HCL := Hid.mk hcl
  clear hcl
  rw [show ((p + 1 : Nat) : Int) = (p : Int) + 1 by omega] at HNE
  clear HRs
  go_enter Tryz.func13, Tryz.ntmps13
  go_wp2_with fail
  refine (HLe.out _).mono ?_
  rintro e wq ⟨rfl, hwq⟩
  obtain rfl := hwq.symm
  go_wp2_with fail
  refine (HL1.out _).mono ?_
  rintro e wq ⟨rfl, hwq⟩
  obtain rfl := hwq.symm
  go_wp2_with fail
  refine (HNE.out _).mono ?_
  rintro e wq ⟨rfl, hwq⟩
  obtain rfl := hwq.symm
  obtain ⟨W, hW⟩ : ∃ W, w.alloc tbox0 = W := ⟨_, rfl⟩
  have hX := heap_alloc_new w tbox0
  rw [hW] at hX
  have HX := Hid.mk hX
  have hb := below1 w tbox0
  rw [hW] at hb
  have HB := Hid.mk hb
  obtain ⟨kc0, kc1, kc2, kc3, kf0, kf1, kf2, kf3⟩ := tbox_cells hX
  unfold tbox0 at hW
  (try rw [hW])
  clear hX hb
  go_wp2_with fail
  (try simp only [Exit.inBlock, Exit.then])
  generalize hz : ((((W).setCell ⟨w.heap.size, 0, none⟩ (.int .i64 4)).setCell ⟨w.heap.size, 1, none⟩ (.int .i64 (p : Int))).setCell ⟨w.heap.size, 2, none⟩ (.int .i64 (q : Int))).setCell ⟨w.heap.size, 3, none⟩ (.string (s.extract (p + 1) q)) = wz
  obtain ⟨z1, z2, z3, z4⟩ := box_set4 _ _ _ _ _ _ _ _ _ _ _ HX.out wz hz.symm
  obtain ⟨hd0, hd1, hd2, hd3, _⟩ := tbox_cells z1
  refine bodyPost_ret (v := .tuple #[.agg #[.int .i64 4, .int .i64 (p : Int), .int .i64 (q : Int), .string (s.extract (p + 1) q)], .int .i64 0]) (by simp [results, Tryz.results13, go_sem, hd0, hd1, hd2, hd3]) rfl ?_
  refine ⟨.inl ⟨rfl, ?_⟩, HB.out.trans (z4 _ (Nat.le_refl _))⟩
  unfold tokV
  dsimp only
  rw [← HXT.out, show p + 1 + nm.length = q by rw [HCL.out]; omega]
  first | rfl | simp

end Go.Proofs.YtohclfgghobldaaGreatDoor
namespace Go.Proofs.YtohclfgghobldaaGreatDoor
open Go.RowKit Go.Shelf
set_option linter.unusedVariables false
set_option linter.unusedSimpArgs false

set_option maxRecDepth 100000 in
set_option maxHeartbeats 6400000 in
theorem w_plE (s : ByteArray) (p : Nat) (w : World) (hp : p < s.size) (hs : s.size ≤ 1073741824) (hle : leB s[p] = false) (h36 : ¬ s[p].toNat = 36) (h46 : ¬ s[p].toNat = 46) (hdg : dgB s[p] = true) :
    Calls Tryz.prog 13 #[.string s, .int .i64 (p : Int)] w fun e w' => PlR (plT s.data.toList p) p w w' e := by
  have HLe := Hid.mk (fun u => w_rLetter s[p] u)
  have HDg := Hid.mk (fun u => w_rDigit s[p] u)
  have hgd := getD_byte hp
  have hi0 : (0 : Int) ≤ (p : Int) := by omega
  have hi1 : (p : Int) < (s.size : Int) := by omega
  obtain ⟨xi, hxi⟩ : ∃ xi : Int, ((s[p].toNat : Nat) : Int) = xi := ⟨_, rfl⟩
  rw [hxi] at HLe HDg
  have hlt : p < s.data.toList.length := by rw [size_lst]; exact hp
  unfold plT
  rw [hgd]
  rw [if_neg (by rw [hle]; decide)]
  rw [hle] at HLe
  rw [if_neg h36, if_neg (fun h => h46 h.1)]
  have i36 : ¬ xi = 36 := by omega
  have i46 : ¬ xi = 46 := by omega
  rw [if_pos hdg]
  rw [hdg] at HDg
  have HNE := Hid.mk (fun u => w_numEnd s p u (by omega) (by omega))
  have hbe := bhP_ge nuB (l := s.data.toList) (p := p) (by rw [size_lst]; omega)
  have HXT := Hid.mk (ext_cut s p (bhP nuB s.data.toList p) (by rw [← size_lst]; exact hbe.2))
  rw [size_lst] at hbe
  unfold numT16
  have HFo := Hid.mk (fun u => w_rFormed (s.extract p (bhP nuB s.data.toList p)) u (Nat.le_trans (ext_le s p _) (by unfold maxLen; omega)))
  rw [show (s.extract p (bhP nuB s.data.toList p)).data.toList = cut s.data.toList p (bhP nuB s.data.toList p) by rw [HXT.out]] at HFo
  generalize bhP nuB s.data.toList p = q at *
  obtain ⟨hpq, hqs⟩ := hbe
  have hj1 : (p : Int) ≤ (q : Int) := by omega
  have hj2 : (q : Int) ≤ (s.size : Int) := by omega
  cases ho : Pl.formed (cut s.data.toList p q) with
  | true =>
    rw [ho] at HFo
    rw [if_pos rfl]
    clear ho
    go_enter Tryz.func13, Tryz.ntmps13
    go_wp2_with fail
    refine (HLe.out _).mono ?_
    rintro e wq ⟨rfl, hwq⟩
    obtain rfl := hwq.symm
    go_wp2_with fail
    refine (HDg.out _).mono ?_
    rintro e wq ⟨rfl, hwq⟩
    obtain rfl := hwq.symm
    go_wp2_with fail
    refine (HNE.out _).mono ?_
    rintro e wq ⟨rfl, hwq⟩
    obtain rfl := hwq.symm
    go_wp2_with fail
    refine (HFo.out _).mono ?_
    rintro e wq ⟨rfl, hwq⟩
    obtain rfl := hwq.symm
    obtain ⟨W, hW⟩ : ∃ W, w.alloc tbox0 = W := ⟨_, rfl⟩
    have hX := heap_alloc_new w tbox0
    rw [hW] at hX
    have HX := Hid.mk hX
    have hb := below1 w tbox0
    rw [hW] at hb
    have HB := Hid.mk hb
    obtain ⟨kc0, kc1, kc2, kc3, kf0, kf1, kf2, kf3⟩ := tbox_cells hX
    unfold tbox0 at hW
    (try rw [hW])
    clear hX hb
    go_wp2_with fail
    (try simp only [Exit.inBlock, Exit.then])
    generalize hz : ((((W).setCell ⟨w.heap.size, 0, none⟩ (.int .i64 5)).setCell ⟨w.heap.size, 1, none⟩ (.int .i64 (p : Int))).setCell ⟨w.heap.size, 2, none⟩ (.int .i64 (q : Int))).setCell ⟨w.heap.size, 3, none⟩ (.string (s.extract p q)) = wz
    obtain ⟨z1, z2, z3, z4⟩ := box_set4 _ _ _ _ _ _ _ _ _ _ _ HX.out wz hz.symm
    obtain ⟨hd0, hd1, hd2, hd3, _⟩ := tbox_cells z1
    refine bodyPost_ret (v := .tuple #[.agg #[.int .i64 5, .int .i64 (p : Int), .int .i64 (q : Int), .string (s.extract p q)], .int .i64 0]) (by simp [results, Tryz.results13, go_sem, hd0, hd1, hd2, hd3]) rfl ?_
    refine ⟨.inl ⟨rfl, ?_⟩, HB.out.trans (z4 _ (Nat.le_refl _))⟩
    unfold tokV
    dsimp only
    rw [← HXT.out]
    first | rfl | simp
  | false =>
    rw [ho] at HFo
    rw [if_neg (by decide)]
    clear ho
    go_enter Tryz.func13, Tryz.ntmps13
    go_wp2_with fail
    refine (HLe.out _).mono ?_
    rintro e wq ⟨rfl, hwq⟩
    obtain rfl := hwq.symm
    go_wp2_with fail
    refine (HDg.out _).mono ?_
    rintro e wq ⟨rfl, hwq⟩
    obtain rfl := hwq.symm
    go_wp2_with fail
    refine (HNE.out _).mono ?_
    rintro e wq ⟨rfl, hwq⟩
    obtain rfl := hwq.symm
    go_wp2_with fail
    refine (HFo.out _).mono ?_
    rintro e wq ⟨rfl, hwq⟩
    obtain rfl := hwq.symm
    obtain ⟨W, hW⟩ : ∃ W, w.alloc tbox0 = W := ⟨_, rfl⟩
    have hX := heap_alloc_new w tbox0
    rw [hW] at hX
    have HX := Hid.mk hX
    have hb := below1 w tbox0
    rw [hW] at hb
    have HB := Hid.mk hb
    obtain ⟨kc0, kc1, kc2, kc3, kf0, kf1, kf2, kf3⟩ := tbox_cells hX
    unfold tbox0 at hW
    (try rw [hW])
    clear hX hb
    go_wp2_with fail
    (try simp only [Exit.inBlock, Exit.then])
    generalize hz : ((((W).setCell ⟨w.heap.size, 0, none⟩ (.int .i64 0)).setCell ⟨w.heap.size, 1, none⟩ (.int .i64 0)).setCell ⟨w.heap.size, 2, none⟩ (.int .i64 0)).setCell ⟨w.heap.size, 3, none⟩ (.string ⟨#[]⟩) = wz
    obtain ⟨z1, z2, z3, z4⟩ := box_set4 _ _ _ _ _ _ _ _ _ _ _ HX.out wz hz.symm
    obtain ⟨hd0, hd1, hd2, hd3, _⟩ := tbox_cells z1
    refine bodyPost_ret (v := .tuple #[.agg #[.int .i64 0, .int .i64 0, .int .i64 0, .string ⟨#[]⟩], .int .i64 42]) (by simp [results, Tryz.results13, go_sem, hd0, hd1, hd2, hd3]) rfl ?_
    exact ⟨.inr ⟨by simp, rfl, rfl⟩, HB.out.trans (z4 _ (Nat.le_refl _))⟩

end Go.Proofs.YtohclfgghobldaaGreatDoor
namespace Go.Proofs.YtohclfgghobldaaGreatDoor
open Go.RowKit Go.Shelf
set_option linter.unusedVariables false
set_option linter.unusedSimpArgs false

theorem mkW_first {l : List UInt8} {p : Nat} (hp : p < l.length) (h : (l.getD p 0).toNat = 36) : mkW l p = [] := by
  have e := drop_getD hp
  have e36 : l.getD p 0 = 36 := by apply UInt8.toNat_inj.1; exact h
  have hno : ∀ x ∈ mkL, x.head? ≠ some 36 := by decide
  have hf : ∀ k, mkB ((l.drop p).take (k + 1)) = false := fun k => by
    cases hb : mkB ((l.drop p).take (k + 1)) with
    | false => rfl
    | true =>
      have hm := List.contains_iff_mem.1 hb
      exact absurd (by rw [e, e36]; rfl) (hno _ hm)
  unfold mkW
  rw [if_neg (by rw [hf 2]; decide), if_neg (by rw [hf 1]; decide), if_neg (by rw [hf 0]; decide)]

set_option maxRecDepth 100000 in
set_option maxHeartbeats 6400000 in
theorem w_plD1 (s : ByteArray) (p : Nat) (w : World) (hp : p < s.size) (hs : s.size ≤ 1073741824) (hle : leB s[p] = false) (hc : s[p].toNat = 36) (h1 : ¬ p + 1 < s.size) :
    Calls Tryz.prog 13 #[.string s, .int .i64 (p : Int)] w fun e w' => PlR (plT s.data.toList p) p w w' e := by
  have HLe := Hid.mk (fun u => w_rLetter s[p] u)
  have HDg := Hid.mk (fun u => w_rDigit s[p] u)
  have hgd := getD_byte hp
  have hi0 : (0 : Int) ≤ (p : Int) := by omega
  have hi1 : (p : Int) < (s.size : Int) := by omega
  obtain ⟨xi, hxi⟩ : ∃ xi : Int, ((s[p].toNat : Nat) : Int) = xi := ⟨_, rfl⟩
  rw [hxi] at HLe HDg
  have hlt : p < s.data.toList.length := by rw [size_lst]; exact hp
  unfold plT
  rw [hgd]
  rw [if_neg (by rw [hle]; decide)]
  rw [hle] at HLe
  have hdg : dgB s[p] = false := by unfold dgB; exact decide_eq_false (by omega)
  rw [hdg] at HDg
  have hnW : nameW s.data.toList (p + 1) = [] := by
    unfold nameW
    rw [if_neg]
    rintro ⟨g1, g2⟩
    rw [size_lst] at g1
    exact h1 g1
  have hi2 : ¬ (p : Int) + 1 < (s.size : Int) := by omega
  have hv : varT s.data.toList p = ⟨0, p, 0, [], 160⟩ := by unfold varT; rw [hnW]; rfl
  have hmk0 : mkW s.data.toList p = [] := by
    have hb := mkW_first hlt
    rw [hgd] at hb
    exact hb (by omega)
  rw [if_pos hc, hv]
  have hvm : (⟨0, p, 0, [], 160⟩ : Tok) = markT s.data.toList p := by unfold markT; rw [hmk0]; rfl
  rw [hvm]
  clear hv hmk0 hvm
  obtain rfl : 36 = xi := by omega
  clear hnW
  have HMk := Hid.mk (fun u => w_rmark s p u hp (by omega))
  have hrm := rmk_eq hlt
  have hmle := mkW_len s.data.toList p
  rw [size_lst] at hmle
  have HXT : Hid (∀ m, m = rmk s.data.toList p → s.extract p (p + m) = ⟨(mkW s.data.toList p).toArray⟩) := fun m hm => by
    have h1 : p + m ≤ s.size := by rw [hm, ← hrm.1]; omega
    rw [ext_cut s p (p + m) h1]
    congr 2
    rw [hrm.2, hm]
    unfold cut
    rw [show p + rmk s.data.toList p - p = rmk s.data.toList p by omega]
  unfold markT
  have hlen := hrm.1
  rw [hlen] at hmle ⊢
  have HLN := Hid.mk hlen
  clear hrm hlen
  generalize hkk : rmk s.data.toList p = k at *
  have HX2 := Hid.mk (HXT.out k rfl)
  clear HXT
  have HK0 : Hid (k = 0 ↔ mkW s.data.toList p = []) := by
    show _ ↔ _
    rw [← HLN.out]
    exact List.length_eq_zero_iff
  clear HLN
  generalize mkW s.data.toList p = mk at *
  by_cases hk0 : k = 0
  · have hmn := HK0.out.1 hk0
    rw [if_pos hmn]
    subst hk0
    clear HX2 HK0 hmn hkk
    go_enter Tryz.func13, Tryz.ntmps13
    go_wp2_with fail
    refine (HLe.out _).mono ?_
    rintro e wq ⟨rfl, hwq⟩
    obtain rfl := hwq.symm
    go_wp2_with fail
    refine (HDg.out _).mono ?_
    rintro e wq ⟨rfl, hwq⟩
    obtain rfl := hwq.symm
    go_wp2_with fail
    refine (HMk.out _).mono ?_
    rintro e wq ⟨rfl, hwq⟩
    obtain rfl := hwq.symm
    obtain ⟨W, hW⟩ : ∃ W, w.alloc tbox0 = W := ⟨_, rfl⟩
    have hX := heap_alloc_new w tbox0
    rw [hW] at hX
    have HX := Hid.mk hX
    have hb := below1 w tbox0
    rw [hW] at hb
    have HB := Hid.mk hb
    obtain ⟨kc0, kc1, kc2, kc3, kf0, kf1, kf2, kf3⟩ := tbox_cells hX
    unfold tbox0 at hW
    (try rw [hW])
    clear hX hb
    go_wp2_with fail
    (try simp only [Exit.inBlock, Exit.then])
    generalize hz : ((((W).setCell ⟨w.heap.size, 0, none⟩ (.int .i64 0)).setCell ⟨w.heap.size, 1, none⟩ (.int .i64 0)).setCell ⟨w.heap.size, 2, none⟩ (.int .i64 0)).setCell ⟨w.heap.size, 3, none⟩ (.string ⟨#[]⟩) = wz
    obtain ⟨z1, z2, z3, z4⟩ := box_set4 _ _ _ _ _ _ _ _ _ _ _ HX.out wz hz.symm
    obtain ⟨hd0, hd1, hd2, hd3, _⟩ := tbox_cells z1
    refine bodyPost_ret (v := .tuple #[.agg #[.int .i64 0, .int .i64 0, .int .i64 0, .string ⟨#[]⟩], .int .i64 160]) (by simp [results, Tryz.results13, go_sem, hd0, hd1, hd2, hd3]) rfl ?_
    exact ⟨.inr ⟨by simp, rfl, rfl⟩, HB.out.trans (z4 _ (Nat.le_refl _))⟩
  · have hmn : ¬ mk = [] := fun e => hk0 (HK0.out.2 e)
    rw [if_neg hmn]
    have e0 : ((k : Int) == 0) = false := by rw [beq_eq_false_iff_ne]; omega
    have e1 : ¬ (k : Int) = 0 := by omega
    have j1 : (p : Int) ≤ (p : Int) + (k : Int) := by omega
    have j2 : (p : Int) + (k : Int) ≤ (s.size : Int) := by omega
    clear HK0 hmn hkk hk0
    go_enter Tryz.func13, Tryz.ntmps13
    go_wp2_with fail
    refine (HLe.out _).mono ?_
    rintro e wq ⟨rfl, hwq⟩
    obtain rfl := hwq.symm
    go_wp2_with fail
    refine (HDg.out _).mono ?_
    rintro e wq ⟨rfl, hwq⟩
    obtain rfl := hwq.symm
    go_wp2_with fail
    refine (HMk.out _).mono ?_
    rintro e wq ⟨rfl, hwq⟩
    obtain rfl := hwq.symm
    obtain ⟨W, hW⟩ : ∃ W, w.alloc tbox0 = W := ⟨_, rfl⟩
    have hX := heap_alloc_new w tbox0
    rw [hW] at hX
    have HX := Hid.mk hX
    have hb := below1 w tbox0
    rw [hW] at hb
    have HB := Hid.mk hb
    obtain ⟨kc0, kc1, kc2, kc3, kf0, kf1, kf2, kf3⟩ := tbox_cells hX
    unfold tbox0 at hW
    (try rw [hW])
    clear hX hb
    go_wp2_with fail
    (try simp only [Exit.inBlock, Exit.then])
    generalize hz : ((((W).setCell ⟨w.heap.size, 0, none⟩ (.int .i64 10)).setCell ⟨w.heap.size, 1, none⟩ (.int .i64 (p : Int))).setCell ⟨w.heap.size, 2, none⟩ (.int .i64 ((p : Int) + (k : Int)))).setCell ⟨w.heap.size, 3, none⟩ (.string (s.extract p (p + k))) = wz
    obtain ⟨z1, z2, z3, z4⟩ := box_set4 _ _ _ _ _ _ _ _ _ _ _ HX.out wz hz.symm
    obtain ⟨hd0, hd1, hd2, hd3, _⟩ := tbox_cells z1
    refine bodyPost_ret (v := .tuple #[.agg #[.int .i64 10, .int .i64 (p : Int), .int .i64 ((p : Int) + (k : Int)), .string (s.extract p (p + k))], .int .i64 0]) (by simp [results, Tryz.results13, go_sem, hd0, hd1, hd2, hd3]) rfl ?_
    refine ⟨.inl ⟨rfl, ?_⟩, HB.out.trans (z4 _ (Nat.le_refl _))⟩
    unfold tokV
    dsimp only
    rw [HX2.out]
    first | rfl | simp

set_option maxRecDepth 100000 in
set_option maxHeartbeats 6400000 in
theorem w_plD2 (s : ByteArray) (p : Nat) (w : World) (hp : p < s.size) (hs : s.size ≤ 1073741824) (hle : leB s[p] = false) (hc : s[p].toNat = 36) (h1 : p + 1 < s.size) (hl1 : leB s[p + 1] = false) :
    Calls Tryz.prog 13 #[.string s, .int .i64 (p : Int)] w fun e w' => PlR (plT s.data.toList p) p w w' e := by
  have HLe := Hid.mk (fun u => w_rLetter s[p] u)
  have HDg := Hid.mk (fun u => w_rDigit s[p] u)
  have hgd := getD_byte hp
  have hi0 : (0 : Int) ≤ (p : Int) := by omega
  have hi1 : (p : Int) < (s.size : Int) := by omega
  obtain ⟨xi, hxi⟩ : ∃ xi : Int, ((s[p].toNat : Nat) : Int) = xi := ⟨_, rfl⟩
  rw [hxi] at HLe HDg
  have hlt : p < s.data.toList.length := by rw [size_lst]; exact hp
  unfold plT
  rw [hgd]
  rw [if_neg (by rw [hle]; decide)]
  rw [hle] at HLe
  have hdg : dgB s[p] = false := by unfold dgB; exact decide_eq_false (by omega)
  rw [hdg] at HDg
  have hnW : nameW s.data.toList (p + 1) = [] := by
    unfold nameW
    rw [if_neg]
    rintro ⟨g1, g2⟩
    rw [size_lst] at g1
    rw [getD_byte h1, hl1] at g2
    cases g2
  have hi2 : (p : Int) + 1 < (s.size : Int) := by omega
  have hi3 : (0 : Int) ≤ (p : Int) + 1 := by omega
  have HL1 := Hid.mk (fun u => w_rLetter s[p + 1] u)
  rw [hl1] at HL1
  have hv : varT s.data.toList p = ⟨0, p, 0, [], 160⟩ := by unfold varT; rw [hnW]; rfl
  have hmk0 : mkW s.data.toList p = [] := by
    have hb := mkW_first hlt
    rw [hgd] at hb
    exact hb (by omega)
  rw [if_pos hc, hv]
  have hvm : (⟨0, p, 0, [], 160⟩ : Tok) = markT s.data.toList p := by unfold markT; rw [hmk0]; rfl
  rw [hvm]
  clear hv hmk0 hvm
  obtain rfl : 36 = xi := by omega
  clear hnW
  have HMk := Hid.mk (fun u => w_rmark s p u hp (by omega))
  have hrm := rmk_eq hlt
  have hmle := mkW_len s.data.toList p
  rw [size_lst] at hmle
  have HXT : Hid (∀ m, m = rmk s.data.toList p → s.extract p (p + m) = ⟨(mkW s.data.toList p).toArray⟩) := fun m hm => by
    have h1 : p + m ≤ s.size := by rw [hm, ← hrm.1]; omega
    rw [ext_cut s p (p + m) h1]
    congr 2
    rw [hrm.2, hm]
    unfold cut
    rw [show p + rmk s.data.toList p - p = rmk s.data.toList p by omega]
  unfold markT
  have hlen := hrm.1
  rw [hlen] at hmle ⊢
  have HLN := Hid.mk hlen
  clear hrm hlen
  generalize hkk : rmk s.data.toList p = k at *
  have HX2 := Hid.mk (HXT.out k rfl)
  clear HXT
  have HK0 : Hid (k = 0 ↔ mkW s.data.toList p = []) := by
    show _ ↔ _
    rw [← HLN.out]
    exact List.length_eq_zero_iff
  clear HLN
  generalize mkW s.data.toList p = mk at *
  by_cases hk0 : k = 0
  · have hmn := HK0.out.1 hk0
    rw [if_pos hmn]
    subst hk0
    clear HX2 HK0 hmn hkk
    go_enter Tryz.func13, Tryz.ntmps13
    go_wp2_with fail
    refine (HLe.out _).mono ?_
    rintro e wq ⟨rfl, hwq⟩
    obtain rfl := hwq.symm
    go_wp2_with fail
    refine (HL1.out _).mono ?_
    rintro e wq ⟨rfl, hwq⟩
    obtain rfl := hwq.symm
    go_wp2_with fail
    refine (HDg.out _).mono ?_
    rintro e wq ⟨rfl, hwq⟩
    obtain rfl := hwq.symm
    go_wp2_with fail
    refine (HMk.out _).mono ?_
    rintro e wq ⟨rfl, hwq⟩
    obtain rfl := hwq.symm
    obtain ⟨W, hW⟩ : ∃ W, w.alloc tbox0 = W := ⟨_, rfl⟩
    have hX := heap_alloc_new w tbox0
    rw [hW] at hX
    have HX := Hid.mk hX
    have hb := below1 w tbox0
    rw [hW] at hb
    have HB := Hid.mk hb
    obtain ⟨kc0, kc1, kc2, kc3, kf0, kf1, kf2, kf3⟩ := tbox_cells hX
    unfold tbox0 at hW
    (try rw [hW])
    clear hX hb
    go_wp2_with fail
    (try simp only [Exit.inBlock, Exit.then])
    generalize hz : ((((W).setCell ⟨w.heap.size, 0, none⟩ (.int .i64 0)).setCell ⟨w.heap.size, 1, none⟩ (.int .i64 0)).setCell ⟨w.heap.size, 2, none⟩ (.int .i64 0)).setCell ⟨w.heap.size, 3, none⟩ (.string ⟨#[]⟩) = wz
    obtain ⟨z1, z2, z3, z4⟩ := box_set4 _ _ _ _ _ _ _ _ _ _ _ HX.out wz hz.symm
    obtain ⟨hd0, hd1, hd2, hd3, _⟩ := tbox_cells z1
    refine bodyPost_ret (v := .tuple #[.agg #[.int .i64 0, .int .i64 0, .int .i64 0, .string ⟨#[]⟩], .int .i64 160]) (by simp [results, Tryz.results13, go_sem, hd0, hd1, hd2, hd3]) rfl ?_
    exact ⟨.inr ⟨by simp, rfl, rfl⟩, HB.out.trans (z4 _ (Nat.le_refl _))⟩
  · have hmn : ¬ mk = [] := fun e => hk0 (HK0.out.2 e)
    rw [if_neg hmn]
    have e0 : ((k : Int) == 0) = false := by rw [beq_eq_false_iff_ne]; omega
    have e1 : ¬ (k : Int) = 0 := by omega
    have j1 : (p : Int) ≤ (p : Int) + (k : Int) := by omega
    have j2 : (p : Int) + (k : Int) ≤ (s.size : Int) := by omega
    clear HK0 hmn hkk hk0
    go_enter Tryz.func13, Tryz.ntmps13
    go_wp2_with fail
    refine (HLe.out _).mono ?_
    rintro e wq ⟨rfl, hwq⟩
    obtain rfl := hwq.symm
    go_wp2_with fail
    refine (HL1.out _).mono ?_
    rintro e wq ⟨rfl, hwq⟩
    obtain rfl := hwq.symm
    go_wp2_with fail
    refine (HDg.out _).mono ?_
    rintro e wq ⟨rfl, hwq⟩
    obtain rfl := hwq.symm
    go_wp2_with fail
    refine (HMk.out _).mono ?_
    rintro e wq ⟨rfl, hwq⟩
    obtain rfl := hwq.symm
    obtain ⟨W, hW⟩ : ∃ W, w.alloc tbox0 = W := ⟨_, rfl⟩
    have hX := heap_alloc_new w tbox0
    rw [hW] at hX
    have HX := Hid.mk hX
    have hb := below1 w tbox0
    rw [hW] at hb
    have HB := Hid.mk hb
    obtain ⟨kc0, kc1, kc2, kc3, kf0, kf1, kf2, kf3⟩ := tbox_cells hX
    unfold tbox0 at hW
    (try rw [hW])
    clear hX hb
    go_wp2_with fail
    (try simp only [Exit.inBlock, Exit.then])
    generalize hz : ((((W).setCell ⟨w.heap.size, 0, none⟩ (.int .i64 10)).setCell ⟨w.heap.size, 1, none⟩ (.int .i64 (p : Int))).setCell ⟨w.heap.size, 2, none⟩ (.int .i64 ((p : Int) + (k : Int)))).setCell ⟨w.heap.size, 3, none⟩ (.string (s.extract p (p + k))) = wz
    obtain ⟨z1, z2, z3, z4⟩ := box_set4 _ _ _ _ _ _ _ _ _ _ _ HX.out wz hz.symm
    obtain ⟨hd0, hd1, hd2, hd3, _⟩ := tbox_cells z1
    refine bodyPost_ret (v := .tuple #[.agg #[.int .i64 10, .int .i64 (p : Int), .int .i64 ((p : Int) + (k : Int)), .string (s.extract p (p + k))], .int .i64 0]) (by simp [results, Tryz.results13, go_sem, hd0, hd1, hd2, hd3]) rfl ?_
    refine ⟨.inl ⟨rfl, ?_⟩, HB.out.trans (z4 _ (Nat.le_refl _))⟩
    unfold tokV
    dsimp only
    rw [HX2.out]
    first | rfl | simp

end Go.Proofs.YtohclfgghobldaaGreatDoor
namespace Go.Proofs.YtohclfgghobldaaGreatDoor
open Go.RowKit Go.Shelf
set_option linter.unusedVariables false
set_option linter.unusedSimpArgs false

set_option maxRecDepth 100000 in
set_option maxHeartbeats 6400000 in
theorem w_plD3 (s : ByteArray) (p : Nat) (w : World) (hp : p < s.size) (hs : s.size ≤ 1073741824) (hle : leB s[p] = false) (hc : s[p].toNat = 46) (h1 : ¬ p + 1 < s.size) :
    Calls Tryz.prog 13 #[.string s, .int .i64 (p : Int)] w fun e w' => PlR (plT s.data.toList p) p w w' e := by
  have HLe := Hid.mk (fun u => w_rLetter s[p] u)
  have HDg := Hid.mk (fun u => w_rDigit s[p] u)
  have hgd := getD_byte hp
  have hi0 : (0 : Int) ≤ (p : Int) := by omega
  have hi1 : (p : Int) < (s.size : Int) := by omega
  obtain ⟨xi, hxi⟩ : ∃ xi : Int, ((s[p].toNat : Nat) : Int) = xi := ⟨_, rfl⟩
  rw [hxi] at HLe HDg
  have hlt : p < s.data.toList.length := by rw [size_lst]; exact hp
  unfold plT
  rw [hgd]
  rw [if_neg (by rw [hle]; decide)]
  rw [hle] at HLe
  have hdg : dgB s[p] = false := by unfold dgB; exact decide_eq_false (by omega)
  rw [hdg] at HDg
  have hnW : nameW s.data.toList (p + 1) = [] := by
    unfold nameW
    rw [if_neg]
    rintro ⟨g1, g2⟩
    rw [size_lst] at g1
    exact h1 g1
  have hi2 : ¬ (p : Int) + 1 < (s.size : Int) := by omega
  rw [if_neg (by omega), if_neg (fun h => h.2 hnW), if_neg (by rw [hdg]; decide)]
  obtain rfl : 46 = xi := by omega
  clear hnW
  have HMk := Hid.mk (fun u => w_rmark s p u hp (by omega))
  have hrm := rmk_eq hlt
  have hmle := mkW_len s.data.toList p
  rw [size_lst] at hmle
  have HXT : Hid (∀ m, m = rmk s.data.toList p → s.extract p (p + m) = ⟨(mkW s.data.toList p).toArray⟩) := fun m hm => by
    have h1 : p + m ≤ s.size := by rw [hm, ← hrm.1]; omega
    rw [ext_cut s p (p + m) h1]
    congr 2
    rw [hrm.2, hm]
    unfold cut
    rw [show p + rmk s.data.toList p - p = rmk s.data.toList p by omega]
  unfold markT
  have hlen := hrm.1
  rw [hlen] at hmle ⊢
  have HLN := Hid.mk hlen
  clear hrm hlen
  generalize hkk : rmk s.data.toList p = k at *
  have HX2 := Hid.mk (HXT.out k rfl)
  clear HXT
  have HK0 : Hid (k = 0 ↔ mkW s.data.toList p = []) := by
    show _ ↔ _
    rw [← HLN.out]
    exact List.length_eq_zero_iff
  clear HLN
  generalize mkW s.data.toList p = mk at *
  by_cases hk0 : k = 0
  · have hmn := HK0.out.1 hk0
    rw [if_pos hmn]
    subst hk0
    clear HX2 HK0 hmn hkk
    go_enter Tryz.func13, Tryz.ntmps13
    go_wp2_with fail
    refine (HLe.out _).mono ?_
    rintro e wq ⟨rfl, hwq⟩
    obtain rfl := hwq.symm
    go_wp2_with fail
    refine (HDg.out _).mono ?_
    rintro e wq ⟨rfl, hwq⟩
    obtain rfl := hwq.symm
    go_wp2_with fail
    refine (HMk.out _).mono ?_
    rintro e wq ⟨rfl, hwq⟩
    obtain rfl := hwq.symm
    obtain ⟨W, hW⟩ : ∃ W, w.alloc tbox0 = W := ⟨_, rfl⟩
    have hX := heap_alloc_new w tbox0
    rw [hW] at hX
    have HX := Hid.mk hX
    have hb := below1 w tbox0
    rw [hW] at hb
    have HB := Hid.mk hb
    obtain ⟨kc0, kc1, kc2, kc3, kf0, kf1, kf2, kf3⟩ := tbox_cells hX
    unfold tbox0 at hW
    (try rw [hW])
    clear hX hb
    go_wp2_with fail
    (try simp only [Exit.inBlock, Exit.then])
    generalize hz : ((((W).setCell ⟨w.heap.size, 0, none⟩ (.int .i64 0)).setCell ⟨w.heap.size, 1, none⟩ (.int .i64 0)).setCell ⟨w.heap.size, 2, none⟩ (.int .i64 0)).setCell ⟨w.heap.size, 3, none⟩ (.string ⟨#[]⟩) = wz
    obtain ⟨z1, z2, z3, z4⟩ := box_set4 _ _ _ _ _ _ _ _ _ _ _ HX.out wz hz.symm
    obtain ⟨hd0, hd1, hd2, hd3, _⟩ := tbox_cells z1
    refine bodyPost_ret (v := .tuple #[.agg #[.int .i64 0, .int .i64 0, .int .i64 0, .string ⟨#[]⟩], .int .i64 160]) (by simp [results, Tryz.results13, go_sem, hd0, hd1, hd2, hd3]) rfl ?_
    exact ⟨.inr ⟨by simp, rfl, rfl⟩, HB.out.trans (z4 _ (Nat.le_refl _))⟩
  · have hmn : ¬ mk = [] := fun e => hk0 (HK0.out.2 e)
    rw [if_neg hmn]
    have e0 : ((k : Int) == 0) = false := by rw [beq_eq_false_iff_ne]; omega
    have e1 : ¬ (k : Int) = 0 := by omega
    have j1 : (p : Int) ≤ (p : Int) + (k : Int) := by omega
    have j2 : (p : Int) + (k : Int) ≤ (s.size : Int) := by omega
    clear HK0 hmn hkk hk0
    go_enter Tryz.func13, Tryz.ntmps13
    go_wp2_with fail
    refine (HLe.out _).mono ?_
    rintro e wq ⟨rfl, hwq⟩
    obtain rfl := hwq.symm
    go_wp2_with fail
    refine (HDg.out _).mono ?_
    rintro e wq ⟨rfl, hwq⟩
    obtain rfl := hwq.symm
    go_wp2_with fail
    refine (HMk.out _).mono ?_
    rintro e wq ⟨rfl, hwq⟩
    obtain rfl := hwq.symm
    obtain ⟨W, hW⟩ : ∃ W, w.alloc tbox0 = W := ⟨_, rfl⟩
    have hX := heap_alloc_new w tbox0
    rw [hW] at hX
    have HX := Hid.mk hX
    have hb := below1 w tbox0
    rw [hW] at hb
    have HB := Hid.mk hb
    obtain ⟨kc0, kc1, kc2, kc3, kf0, kf1, kf2, kf3⟩ := tbox_cells hX
    unfold tbox0 at hW
    (try rw [hW])
    clear hX hb
    go_wp2_with fail
    (try simp only [Exit.inBlock, Exit.then])
    generalize hz : ((((W).setCell ⟨w.heap.size, 0, none⟩ (.int .i64 10)).setCell ⟨w.heap.size, 1, none⟩ (.int .i64 (p : Int))).setCell ⟨w.heap.size, 2, none⟩ (.int .i64 ((p : Int) + (k : Int)))).setCell ⟨w.heap.size, 3, none⟩ (.string (s.extract p (p + k))) = wz
    obtain ⟨z1, z2, z3, z4⟩ := box_set4 _ _ _ _ _ _ _ _ _ _ _ HX.out wz hz.symm
    obtain ⟨hd0, hd1, hd2, hd3, _⟩ := tbox_cells z1
    refine bodyPost_ret (v := .tuple #[.agg #[.int .i64 10, .int .i64 (p : Int), .int .i64 ((p : Int) + (k : Int)), .string (s.extract p (p + k))], .int .i64 0]) (by simp [results, Tryz.results13, go_sem, hd0, hd1, hd2, hd3]) rfl ?_
    refine ⟨.inl ⟨rfl, ?_⟩, HB.out.trans (z4 _ (Nat.le_refl _))⟩
    unfold tokV
    dsimp only
    rw [HX2.out]
    first | rfl | simp

set_option maxRecDepth 100000 in
set_option maxHeartbeats 6400000 in
theorem w_plD4 (s : ByteArray) (p : Nat) (w : World) (hp : p < s.size) (hs : s.size ≤ 1073741824) (hle : leB s[p] = false) (hc : s[p].toNat = 46) (h1 : p + 1 < s.size) (hl1 : leB s[p + 1] = false) :
    Calls Tryz.prog 13 #[.string s, .int .i64 (p : Int)] w fun e w' => PlR (plT s.data.toList p) p w w' e := by
  have HLe := Hid.mk (fun u => w_rLetter s[p] u)
  have HDg := Hid.mk (fun u => w_rDigit s[p] u)
  have hgd := getD_byte hp
  have hi0 : (0 : Int) ≤ (p : Int) := by omega
  have hi1 : (p : Int) < (s.size : Int) := by omega
  obtain ⟨xi, hxi⟩ : ∃ xi : Int, ((s[p].toNat : Nat) : Int) = xi := ⟨_, rfl⟩
  rw [hxi] at HLe HDg
  have hlt : p < s.data.toList.length := by rw [size_lst]; exact hp
  unfold plT
  rw [hgd]
  rw [if_neg (by rw [hle]; decide)]
  rw [hle] at HLe
  have hdg : dgB s[p] = false := by unfold dgB; exact decide_eq_false (by omega)
  rw [hdg] at HDg
  have hnW : nameW s.data.toList (p + 1) = [] := by
    unfold nameW
    rw [if_neg]
    rintro ⟨g1, g2⟩
    rw [size_lst] at g1
    rw [getD_byte h1, hl1] at g2
    cases g2
  have hi2 : (p : Int) + 1 < (s.size : Int) := by omega
  have hi3 : (0 : Int) ≤ (p : Int) + 1 := by omega
  have HL1 := Hid.mk (fun u => w_rLetter s[p + 1] u)
  rw [hl1] at HL1
  rw [if_neg (by omega), if_neg (fun h => h.2 hnW), if_neg (by rw [hdg]; decide)]
  obtain rfl : 46 = xi := by omega
  clear hnW
  have HMk := Hid.mk (fun u => w_rmark s p u hp (by omega))
  have hrm := rmk_eq hlt
  have hmle := mkW_len s.data.toList p
  rw [size_lst] at hmle
  have HXT : Hid (∀ m, m = rmk s.data.toList p → s.extract p (p + m) = ⟨(mkW s.data.toList p).toArray⟩) := fun m hm => by
    have h1 : p + m ≤ s.size := by rw [hm, ← hrm.1]; omega
    rw [ext_cut s p (p + m) h1]
    congr 2
    rw [hrm.2, hm]
    unfold cut
    rw [show p + rmk s.data.toList p - p = rmk s.data.toList p by omega]
  unfold markT
  have hlen := hrm.1
  rw [hlen] at hmle ⊢
  have HLN := Hid.mk hlen
  clear hrm hlen
  generalize hkk : rmk s.data.toList p = k at *
  have HX2 := Hid.mk (HXT.out k rfl)
  clear HXT
  have HK0 : Hid (k = 0 ↔ mkW s.data.toList p = []) := by
    show _ ↔ _
    rw [← HLN.out]
    exact List.length_eq_zero_iff
  clear HLN
  generalize mkW s.data.toList p = mk at *
  by_cases hk0 : k = 0
  · have hmn := HK0.out.1 hk0
    rw [if_pos hmn]
    subst hk0
    clear HX2 HK0 hmn hkk
    go_enter Tryz.func13, Tryz.ntmps13
    go_wp2_with fail
    refine (HLe.out _).mono ?_
    rintro e wq ⟨rfl, hwq⟩
    obtain rfl := hwq.symm
    go_wp2_with fail
    refine (HL1.out _).mono ?_
    rintro e wq ⟨rfl, hwq⟩
    obtain rfl := hwq.symm
    go_wp2_with fail
    refine (HDg.out _).mono ?_
    rintro e wq ⟨rfl, hwq⟩
    obtain rfl := hwq.symm
    go_wp2_with fail
    refine (HMk.out _).mono ?_
    rintro e wq ⟨rfl, hwq⟩
    obtain rfl := hwq.symm
    obtain ⟨W, hW⟩ : ∃ W, w.alloc tbox0 = W := ⟨_, rfl⟩
    have hX := heap_alloc_new w tbox0
    rw [hW] at hX
    have HX := Hid.mk hX
    have hb := below1 w tbox0
    rw [hW] at hb
    have HB := Hid.mk hb
    obtain ⟨kc0, kc1, kc2, kc3, kf0, kf1, kf2, kf3⟩ := tbox_cells hX
    unfold tbox0 at hW
    (try rw [hW])
    clear hX hb
    go_wp2_with fail
    (try simp only [Exit.inBlock, Exit.then])
    generalize hz : ((((W).setCell ⟨w.heap.size, 0, none⟩ (.int .i64 0)).setCell ⟨w.heap.size, 1, none⟩ (.int .i64 0)).setCell ⟨w.heap.size, 2, none⟩ (.int .i64 0)).setCell ⟨w.heap.size, 3, none⟩ (.string ⟨#[]⟩) = wz
    obtain ⟨z1, z2, z3, z4⟩ := box_set4 _ _ _ _ _ _ _ _ _ _ _ HX.out wz hz.symm
    obtain ⟨hd0, hd1, hd2, hd3, _⟩ := tbox_cells z1
    refine bodyPost_ret (v := .tuple #[.agg #[.int .i64 0, .int .i64 0, .int .i64 0, .string ⟨#[]⟩], .int .i64 160]) (by simp [results, Tryz.results13, go_sem, hd0, hd1, hd2, hd3]) rfl ?_
    exact ⟨.inr ⟨by simp, rfl, rfl⟩, HB.out.trans (z4 _ (Nat.le_refl _))⟩
  · have hmn : ¬ mk = [] := fun e => hk0 (HK0.out.2 e)
    rw [if_neg hmn]
    have e0 : ((k : Int) == 0) = false := by rw [beq_eq_false_iff_ne]; omega
    have e1 : ¬ (k : Int) = 0 := by omega
    have j1 : (p : Int) ≤ (p : Int) + (k : Int) := by omega
    have j2 : (p : Int) + (k : Int) ≤ (s.size : Int) := by omega
    clear HK0 hmn hkk hk0
    go_enter Tryz.func13, Tryz.ntmps13
    go_wp2_with fail
    refine (HLe.out _).mono ?_
    rintro e wq ⟨rfl, hwq⟩
    obtain rfl := hwq.symm
    go_wp2_with fail
    refine (HL1.out _).mono ?_
    rintro e wq ⟨rfl, hwq⟩
    obtain rfl := hwq.symm
    go_wp2_with fail
    refine (HDg.out _).mono ?_
    rintro e wq ⟨rfl, hwq⟩
    obtain rfl := hwq.symm
    go_wp2_with fail
    refine (HMk.out _).mono ?_
    rintro e wq ⟨rfl, hwq⟩
    obtain rfl := hwq.symm
    obtain ⟨W, hW⟩ : ∃ W, w.alloc tbox0 = W := ⟨_, rfl⟩
    have hX := heap_alloc_new w tbox0
    rw [hW] at hX
    have HX := Hid.mk hX
    have hb := below1 w tbox0
    rw [hW] at hb
    have HB := Hid.mk hb
    obtain ⟨kc0, kc1, kc2, kc3, kf0, kf1, kf2, kf3⟩ := tbox_cells hX
    unfold tbox0 at hW
    (try rw [hW])
    clear hX hb
    go_wp2_with fail
    (try simp only [Exit.inBlock, Exit.then])
    generalize hz : ((((W).setCell ⟨w.heap.size, 0, none⟩ (.int .i64 10)).setCell ⟨w.heap.size, 1, none⟩ (.int .i64 (p : Int))).setCell ⟨w.heap.size, 2, none⟩ (.int .i64 ((p : Int) + (k : Int)))).setCell ⟨w.heap.size, 3, none⟩ (.string (s.extract p (p + k))) = wz
    obtain ⟨z1, z2, z3, z4⟩ := box_set4 _ _ _ _ _ _ _ _ _ _ _ HX.out wz hz.symm
    obtain ⟨hd0, hd1, hd2, hd3, _⟩ := tbox_cells z1
    refine bodyPost_ret (v := .tuple #[.agg #[.int .i64 10, .int .i64 (p : Int), .int .i64 ((p : Int) + (k : Int)), .string (s.extract p (p + k))], .int .i64 0]) (by simp [results, Tryz.results13, go_sem, hd0, hd1, hd2, hd3]) rfl ?_
    refine ⟨.inl ⟨rfl, ?_⟩, HB.out.trans (z4 _ (Nat.le_refl _))⟩
    unfold tokV
    dsimp only
    rw [HX2.out]
    first | rfl | simp

set_option maxRecDepth 100000 in
set_option maxHeartbeats 6400000 in
theorem w_plI (s : ByteArray) (p : Nat) (w : World) (hp : p < s.size) (hs : s.size ≤ 1073741824) (hle : leB s[p] = false) (h36 : ¬ s[p].toNat = 36) (h46 : ¬ s[p].toNat = 46) (hdg : dgB s[p] = false) :
    Calls Tryz.prog 13 #[.string s, .int .i64 (p : Int)] w fun e w' => PlR (plT s.data.toList p) p w w' e := by
  have HLe := Hid.mk (fun u => w_rLetter s[p] u)
  have HDg := Hid.mk (fun u => w_rDigit s[p] u)
  have hgd := getD_byte hp
  have hi0 : (0 : Int) ≤ (p : Int) := by omega
  have hi1 : (p : Int) < (s.size : Int) := by omega
  obtain ⟨xi, hxi⟩ : ∃ xi : Int, ((s[p].toNat : Nat) : Int) = xi := ⟨_, rfl⟩
  rw [hxi] at HLe HDg
  have hlt : p < s.data.toList.length := by rw [size_lst]; exact hp
  unfold plT
  rw [hgd]
  rw [if_neg (by rw [hle]; decide)]
  rw [hle] at HLe
  rw [if_neg h36, if_neg (fun h => h46 h.1)]
  have i36 : ¬ xi = 36 := by omega
  have i46 : ¬ xi = 46 := by omega
  rw [if_neg (by rw [hdg]; decide)]
  rw [hdg] at HDg
  have HMk := Hid.mk (fun u => w_rmark s p u hp (by omega))
  have hrm := rmk_eq hlt
  have hmle := mkW_len s.data.toList p
  rw [size_lst] at hmle
  have HXT : Hid (∀ m, m = rmk s.data.toList p → s.extract p (p + m) = ⟨(mkW s.data.toList p).toArray⟩) := fun m hm => by
    have h1 : p + m ≤ s.size := by rw [hm, ← hrm.1]; omega
    rw [ext_cut s p (p + m) h1]
    congr 2
    rw [hrm.2, hm]
    unfold cut
    rw [show p + rmk s.data.toList p - p = rmk s.data.toList p by omega]
  unfold markT
  have hlen := hrm.1
  rw [hlen] at hmle ⊢
  have HLN := Hid.mk hlen
  clear hrm hlen
  generalize hkk : rmk s.data.toList p = k at *
  have HX2 := Hid.mk (HXT.out k rfl)
  clear HXT
  have HK0 : Hid (k = 0 ↔ mkW s.data.toList p = []) := by
    show _ ↔ _
    rw [← HLN.out]
    exact List.length_eq_zero_iff
  clear HLN
  generalize mkW s.data.toList p = mk at *
  by_cases hk0 : k = 0
  · have hmn := HK0.out.1 hk0
    rw [if_pos hmn]
    subst hk0
    clear HX2 HK0 hmn hkk
    go_enter Tryz.func13, Tryz.ntmps13
    go_wp2_with fail
    refine (HLe.out _).mono ?_
    rintro e wq ⟨rfl, hwq⟩
    obtain rfl := hwq.symm
    go_wp2_with fail
    refine (HDg.out _).mono ?_
    rintro e wq ⟨rfl, hwq⟩
    obtain rfl := hwq.symm
    go_wp2_with fail
    refine (HMk.out _).mono ?_
    rintro e wq ⟨rfl, hwq⟩
    obtain rfl := hwq.symm
    obtain ⟨W, hW⟩ : ∃ W, w.alloc tbox0 = W := ⟨_, rfl⟩
    have hX := heap_alloc_new w tbox0
    rw [hW] at hX
    have HX := Hid.mk hX
    have hb := below1 w tbox0
    rw [hW] at hb
    have HB := Hid.mk hb
    obtain ⟨kc0, kc1, kc2, kc3, kf0, kf1, kf2, kf3⟩ := tbox_cells hX
    unfold tbox0 at hW
    (try rw [hW])
    clear hX hb
    go_wp2_with fail
    (try simp only [Exit.inBlock, Exit.then])
    generalize hz : ((((W).setCell ⟨w.heap.size, 0, none⟩ (.int .i64 0)).setCell ⟨w.heap.size, 1, none⟩ (.int .i64 0)).setCell ⟨w.heap.size, 2, none⟩ (.int .i64 0)).setCell ⟨w.heap.size, 3, none⟩ (.string ⟨#[]⟩) = wz
    obtain ⟨z1, z2, z3, z4⟩ := box_set4 _ _ _ _ _ _ _ _ _ _ _ HX.out wz hz.symm
    obtain ⟨hd0, hd1, hd2, hd3, _⟩ := tbox_cells z1
    refine bodyPost_ret (v := .tuple #[.agg #[.int .i64 0, .int .i64 0, .int .i64 0, .string ⟨#[]⟩], .int .i64 160]) (by simp [results, Tryz.results13, go_sem, hd0, hd1, hd2, hd3]) rfl ?_
    exact ⟨.inr ⟨by simp, rfl, rfl⟩, HB.out.trans (z4 _ (Nat.le_refl _))⟩
  · have hmn : ¬ mk = [] := fun e => hk0 (HK0.out.2 e)
    rw [if_neg hmn]
    have e0 : ((k : Int) == 0) = false := by rw [beq_eq_false_iff_ne]; omega
    have e1 : ¬ (k : Int) = 0 := by omega
    have j1 : (p : Int) ≤ (p : Int) + (k : Int) := by omega
    have j2 : (p : Int) + (k : Int) ≤ (s.size : Int) := by omega
    clear HK0 hmn hkk hk0
    go_enter Tryz.func13, Tryz.ntmps13
    go_wp2_with fail
    refine (HLe.out _).mono ?_
    rintro e wq ⟨rfl, hwq⟩
    obtain rfl := hwq.symm
    go_wp2_with fail
    refine (HDg.out _).mono ?_
    rintro e wq ⟨rfl, hwq⟩
    obtain rfl := hwq.symm
    go_wp2_with fail
    refine (HMk.out _).mono ?_
    rintro e wq ⟨rfl, hwq⟩
    obtain rfl := hwq.symm
    obtain ⟨W, hW⟩ : ∃ W, w.alloc tbox0 = W := ⟨_, rfl⟩
    have hX := heap_alloc_new w tbox0
    rw [hW] at hX
    have HX := Hid.mk hX
    have hb := below1 w tbox0
    rw [hW] at hb
    have HB := Hid.mk hb
    obtain ⟨kc0, kc1, kc2, kc3, kf0, kf1, kf2, kf3⟩ := tbox_cells hX
    unfold tbox0 at hW
    (try rw [hW])
    clear hX hb
    go_wp2_with fail
    (try simp only [Exit.inBlock, Exit.then])
    generalize hz : ((((W).setCell ⟨w.heap.size, 0, none⟩ (.int .i64 10)).setCell ⟨w.heap.size, 1, none⟩ (.int .i64 (p : Int))).setCell ⟨w.heap.size, 2, none⟩ (.int .i64 ((p : Int) + (k : Int)))).setCell ⟨w.heap.size, 3, none⟩ (.string (s.extract p (p + k))) = wz
    obtain ⟨z1, z2, z3, z4⟩ := box_set4 _ _ _ _ _ _ _ _ _ _ _ HX.out wz hz.symm
    obtain ⟨hd0, hd1, hd2, hd3, _⟩ := tbox_cells z1
    refine bodyPost_ret (v := .tuple #[.agg #[.int .i64 10, .int .i64 (p : Int), .int .i64 ((p : Int) + (k : Int)), .string (s.extract p (p + k))], .int .i64 0]) (by simp [results, Tryz.results13, go_sem, hd0, hd1, hd2, hd3]) rfl ?_
    refine ⟨.inl ⟨rfl, ?_⟩, HB.out.trans (z4 _ (Nat.le_refl _))⟩
    unfold tokV
    dsimp only
    rw [HX2.out]
    first | rfl | simp

end Go.Proofs.YtohclfgghobldaaGreatDoor
