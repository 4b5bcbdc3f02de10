import Derived.Test.YtajnaiddcobkiaaGreatDoorM40
namespace Go.Proofs.YtajnaiddcobkiaaGreatDoor
open Go.RowKit Go.Shelf
set_option linter.unusedVariables false
set_option linter.unusedSimpArgs false
attribute [local go_sem] Oper.semAt_some

def rfS : Nat → ByteArray
  | 0 => ⟨#[49, 32, 43, 32, 46, 32, 97, 115, 32, 36, 120, 32, 124, 32, 50]⟩
  | 1 => ⟨#[49, 32, 61, 32, 50, 32, 61, 32, 51]⟩
  | 2 => ⟨#[49, 32, 60, 32, 50, 32, 60, 32, 51]⟩
  | 3 => ⟨#[46, 91, 58, 93]⟩
  | 4 => ⟨#[]⟩
  | 5 => ⟨#[35, 120]⟩
  | 6 => ⟨#[91, 49]⟩
  | 7 => ⟨#[100, 101, 102, 32, 102, 58, 32, 49, 59]⟩
  | 8 => ⟨#[123, 40, 49, 41, 125]⟩
  | 9 => ⟨#[114, 101, 100, 117, 99, 101, 32, 49, 32, 43, 32, 50, 32, 97, 115, 32, 36, 120, 32, 40, 48, 59, 32, 46, 41]⟩
  | 10 => ⟨#[105, 102, 32, 49, 32, 116, 104, 101, 110, 32, 50]⟩
  | 11 => ⟨#[36]⟩
  | _ => ⟨#[]⟩
def rfE : Nat → Nat
  | 0 => 171
  | 1 => 171
  | 2 => 171
  | 3 => 171
  | 4 => 170
  | 5 => 170
  | 6 => 170
  | 7 => 170
  | 8 => 171
  | 9 => 171
  | 10 => 170
  | 11 => 160
  | _ => 0
def rfA : Nat → Nat
  | 0 => 6
  | 1 => 6
  | 2 => 6
  | 3 => 3
  | 4 => 0
  | 5 => 2
  | 6 => 2
  | 7 => 9
  | 8 => 4
  | 9 => 9
  | 10 => 11
  | 11 => 0
  | _ => 0
theorem rf0 : psP [49, 32, 43, 32, 46, 32, 97, 115, 32, 36, 120, 32, 124, 32, 50] 15 = .bad 171 6 := by kernel_rfl
theorem rf1 : psP [49, 32, 61, 32, 50, 32, 61, 32, 51] 9 = .bad 171 6 := by kernel_rfl
theorem rf2 : psP [49, 32, 60, 32, 50, 32, 60, 32, 51] 9 = .bad 171 6 := by kernel_rfl
theorem rf3 : psP [46, 91, 58, 93] 4 = .bad 171 3 := by kernel_rfl
theorem rf4 : psP [] 0 = .bad 170 0 := by kernel_rfl
theorem rf5 : psP [35, 120] 2 = .bad 170 2 := by kernel_rfl
theorem rf6 : psP [91, 49] 2 = .bad 170 2 := by kernel_rfl
theorem rf7 : psP [100, 101, 102, 32, 102, 58, 32, 49, 59] 9 = .bad 170 9 := by kernel_rfl
theorem rf8 : psP [123, 40, 49, 41, 125] 5 = .bad 171 4 := by kernel_rfl
theorem rf9 : psP [114, 101, 100, 117, 99, 101, 32, 49, 32, 43, 32, 50, 32, 97, 115, 32, 36, 120, 32, 40, 48, 59, 32, 46, 41] 25 = .bad 171 9 := by kernel_rfl
theorem rf10 : psP [105, 102, 32, 49, 32, 116, 104, 101, 110, 32, 50] 11 = .bad 170 11 := by kernel_rfl
theorem rf11 : psP [36] 1 = .bad 160 0 := by kernel_rfl
theorem rf_all : ∀ k, k < 12 → psP (rfS k).data.toList (rfS k).size = .bad (rfE k) (rfA k)
  | 0, _ => rf0
  | 1, _ => rf1
  | 2, _ => rf2
  | 3, _ => rf3
  | 4, _ => rf4
  | 5, _ => rf5
  | 6, _ => rf6
  | 7, _ => rf7
  | 8, _ => rf8
  | 9, _ => rf9
  | 10, _ => rf10
  | 11, _ => rf11
  | k + 12, h => by omega
theorem rf_size : ∀ k, k < 12 → (rfS k).size ≤ 16777216
  | 0, _ => by decide
  | 1, _ => by decide
  | 2, _ => by decide
  | 3, _ => by decide
  | 4, _ => by decide
  | 5, _ => by decide
  | 6, _ => by decide
  | 7, _ => by decide
  | 8, _ => by decide
  | 9, _ => by decide
  | 10, _ => by decide
  | 11, _ => by decide
  | k + 12, h => by omega
theorem refu0 (w : World) : Calls Tryz.prog 12 #[.int .i64 0] w fun e w' => e = .returned (.tuple #[.string ⟨#[49, 32, 43, 32, 46, 32, 97, 115, 32, 36, 120, 32, 124, 32, 50]⟩, .int .i64 171, .int .i64 6]) ∧ Below w.heap.size w w' := by
  go_enter Tryz.func12, Tryz.ntmps12
  go_wp2_with fail
  refine bodyPost_ret (v := .tuple #[.string ⟨#[49, 32, 43, 32, 46, 32, 97, 115, 32, 36, 120, 32, 124, 32, 50]⟩, .int .i64 171, .int .i64 6]) (by simp [results, Tryz.results12, go_sem]) rfl ?_
  exact ⟨rfl, Below.refl _ _⟩
theorem refu1 (w : World) : Calls Tryz.prog 12 #[.int .i64 1] w fun e w' => e = .returned (.tuple #[.string ⟨#[49, 32, 61, 32, 50, 32, 61, 32, 51]⟩, .int .i64 171, .int .i64 6]) ∧ Below w.heap.size w w' := by
  go_enter Tryz.func12, Tryz.ntmps12
  go_wp2_with fail
  refine bodyPost_ret (v := .tuple #[.string ⟨#[49, 32, 61, 32, 50, 32, 61, 32, 51]⟩, .int .i64 171, .int .i64 6]) (by simp [results, Tryz.results12, go_sem]) rfl ?_
  exact ⟨rfl, Below.refl _ _⟩
theorem refu2 (w : World) : Calls Tryz.prog 12 #[.int .i64 2] w fun e w' => e = .returned (.tuple #[.string ⟨#[49, 32, 60, 32, 50, 32, 60, 32, 51]⟩, .int .i64 171, .int .i64 6]) ∧ Below w.heap.size w w' := by
  go_enter Tryz.func12, Tryz.ntmps12
  go_wp2_with fail
  refine bodyPost_ret (v := .tuple #[.string ⟨#[49, 32, 60, 32, 50, 32, 60, 32, 51]⟩, .int .i64 171, .int .i64 6]) (by simp [results, Tryz.results12, go_sem]) rfl ?_
  exact ⟨rfl, Below.refl _ _⟩
theorem refu3 (w : World) : Calls Tryz.prog 12 #[.int .i64 3] w fun e w' => e = .returned (.tuple #[.string ⟨#[46, 91, 58, 93]⟩, .int .i64 171, .int .i64 3]) ∧ Below w.heap.size w w' := by
  go_enter Tryz.func12, Tryz.ntmps12
  go_wp2_with fail
  refine bodyPost_ret (v := .tuple #[.string ⟨#[46, 91, 58, 93]⟩, .int .i64 171, .int .i64 3]) (by simp [results, Tryz.results12, go_sem]) rfl ?_
  exact ⟨rfl, Below.refl _ _⟩
theorem refu4 (w : World) : Calls Tryz.prog 12 #[.int .i64 4] w fun e w' => e = .returned (.tuple #[.string ⟨#[]⟩, .int .i64 170, .int .i64 0]) ∧ Below w.heap.size w w' := by
  go_enter Tryz.func12, Tryz.ntmps12
  go_wp2_with fail
  refine bodyPost_ret (v := .tuple #[.string ⟨#[]⟩, .int .i64 170, .int .i64 0]) (by simp [results, Tryz.results12, go_sem]) rfl ?_
  exact ⟨rfl, Below.refl _ _⟩
theorem refu5 (w : World) : Calls Tryz.prog 12 #[.int .i64 5] w fun e w' => e = .returned (.tuple #[.string ⟨#[35, 120]⟩, .int .i64 170, .int .i64 2]) ∧ Below w.heap.size w w' := by
  go_enter Tryz.func12, Tryz.ntmps12
  go_wp2_with fail
  refine bodyPost_ret (v := .tuple #[.string ⟨#[35, 120]⟩, .int .i64 170, .int .i64 2]) (by simp [results, Tryz.results12, go_sem]) rfl ?_
  exact ⟨rfl, Below.refl _ _⟩
theorem refu6 (w : World) : Calls Tryz.prog 12 #[.int .i64 6] w fun e w' => e = .returned (.tuple #[.string ⟨#[91, 49]⟩, .int .i64 170, .int .i64 2]) ∧ Below w.heap.size w w' := by
  go_enter Tryz.func12, Tryz.ntmps12
  go_wp2_with fail
  refine bodyPost_ret (v := .tuple #[.string ⟨#[91, 49]⟩, .int .i64 170, .int .i64 2]) (by simp [results, Tryz.results12, go_sem]) rfl ?_
  exact ⟨rfl, Below.refl _ _⟩
theorem refu7 (w : World) : Calls Tryz.prog 12 #[.int .i64 7] w fun e w' => e = .returned (.tuple #[.string ⟨#[100, 101, 102, 32, 102, 58, 32, 49, 59]⟩, .int .i64 170, .int .i64 9]) ∧ Below w.heap.size w w' := by
  go_enter Tryz.func12, Tryz.ntmps12
  go_wp2_with fail
  refine bodyPost_ret (v := .tuple #[.string ⟨#[100, 101, 102, 32, 102, 58, 32, 49, 59]⟩, .int .i64 170, .int .i64 9]) (by simp [results, Tryz.results12, go_sem]) rfl ?_
  exact ⟨rfl, Below.refl _ _⟩
theorem refu8 (w : World) : Calls Tryz.prog 12 #[.int .i64 8] w fun e w' => e = .returned (.tuple #[.string ⟨#[123, 40, 49, 41, 125]⟩, .int .i64 171, .int .i64 4]) ∧ Below w.heap.size w w' := by
  go_enter Tryz.func12, Tryz.ntmps12
  go_wp2_with fail
  refine bodyPost_ret (v := .tuple #[.string ⟨#[123, 40, 49, 41, 125]⟩, .int .i64 171, .int .i64 4]) (by simp [results, Tryz.results12, go_sem]) rfl ?_
  exact ⟨rfl, Below.refl _ _⟩
theorem refu9 (w : World) : Calls Tryz.prog 12 #[.int .i64 9] w fun e w' => e = .returned (.tuple #[.string ⟨#[114, 101, 100, 117, 99, 101, 32, 49, 32, 43, 32, 50, 32, 97, 115, 32, 36, 120, 32, 40, 48, 59, 32, 46, 41]⟩, .int .i64 171, .int .i64 9]) ∧ Below w.heap.size w w' := by
  go_enter Tryz.func12, Tryz.ntmps12
  go_wp2_with fail
  refine bodyPost_ret (v := .tuple #[.string ⟨#[114, 101, 100, 117, 99, 101, 32, 49, 32, 43, 32, 50, 32, 97, 115, 32, 36, 120, 32, 40, 48, 59, 32, 46, 41]⟩, .int .i64 171, .int .i64 9]) (by simp [results, Tryz.results12, go_sem]) rfl ?_
  exact ⟨rfl, Below.refl _ _⟩
theorem refu10 (w : World) : Calls Tryz.prog 12 #[.int .i64 10] w fun e w' => e = .returned (.tuple #[.string ⟨#[105, 102, 32, 49, 32, 116, 104, 101, 110, 32, 50]⟩, .int .i64 170, .int .i64 11]) ∧ Below w.heap.size w w' := by
  go_enter Tryz.func12, Tryz.ntmps12
  go_wp2_with fail
  refine bodyPost_ret (v := .tuple #[.string ⟨#[105, 102, 32, 49, 32, 116, 104, 101, 110, 32, 50]⟩, .int .i64 170, .int .i64 11]) (by simp [results, Tryz.results12, go_sem]) rfl ?_
  exact ⟨rfl, Below.refl _ _⟩
theorem refu11 (w : World) : Calls Tryz.prog 12 #[.int .i64 11] w fun e w' => e = .returned (.tuple #[.string ⟨#[36]⟩, .int .i64 160, .int .i64 0]) ∧ Below w.heap.size w w' := by
  go_enter Tryz.func12, Tryz.ntmps12
  go_wp2_with fail
  refine bodyPost_ret (v := .tuple #[.string ⟨#[36]⟩, .int .i64 160, .int .i64 0]) (by simp [results, Tryz.results12, go_sem]) rfl ?_
  exact ⟨rfl, Below.refl _ _⟩
theorem refuX (w : World) : ∀ k : Nat, k < 12 → Calls Tryz.prog 12 #[.int .i64 (k : Int)] w fun e w' => e = .returned (.tuple #[.string (rfS k), .int .i64 (rfE k : Int), .int .i64 (rfA k : Int)]) ∧ Below w.heap.size w w'
  | 0, _ => refu0 w
  | 1, _ => refu1 w
  | 2, _ => refu2 w
  | 3, _ => refu3 w
  | 4, _ => refu4 w
  | 5, _ => refu5 w
  | 6, _ => refu6 w
  | 7, _ => refu7 w
  | 8, _ => refu8 w
  | 9, _ => refu9 w
  | 10, _ => refu10 w
  | 11, _ => refu11 w
  | k + 12, h => by omega
def knC (T : NT) : Bool := decide (T.op = 27 ∧ T.kids.length = 2) && decide ((T.kids.getD 0 T).op = 7 ∧ (T.kids.getD 1 T).op = 27)
theorem knA : okP (psP [46, 97, 32, 47, 47, 32, 49, 32, 47, 47, 32, 50] 12) knC = true := by kernel_rfl
theorem knB : psP (List.replicate 65 40) 65 = .bad 172 64 := by kernel_rfl
theorem knD : psP (List.replicate 64 40) 64 = .bad 170 64 := by kernel_rfl
theorem ba_app (a b : ByteArray) : (a ++ b).data.toList = a.data.toList ++ b.data.toList := by simp
theorem ba_len (a : ByteArray) : a.size = a.data.toList.length := by rw [Array.length_toList]; rfl

set_option maxRecDepth 100000 in
set_option maxHeartbeats 3200000 in
theorem w_SyntaxKnown (w : World) (hE : ErrIn w) (hO : OpsX w) : Calls Tryz.prog 6 #[] w fun e w' => e = .returned (.bool true) ∧ Below w.heap.size w w' := by
  have HP : Hid (∀ k, k < 12 → ∀ u, Below w.heap.size w u → Calls Tryz.prog 7 #[.string (rfS k)] u fun e w' => e = .returned (.tuple #[.agg #[.int .i64 0, .int .i64 0, .string ⟨#[]⟩, .int .i64 0, .string ⟨#[]⟩, .string ⟨#[]⟩, .slice none 0 0, .slice none 0 0, .slice none 0 0, .slice none 0 0], .int .i64 (rfE k : Int), .int .i64 (rfA k : Int)]) ∧ Below u.heap.size u w') := fun k hk u hb => parse_bad (rf_all k hk) (rf_size k hk) u (hE.keep hb) (hO.keep hb)
  have HA : Hid (∀ u, Below w.heap.size w u → Calls Tryz.prog 7 #[.string ⟨#[46, 97, 32, 47, 47, 32, 49, 32, 47, 47, 32, 50]⟩] u fun e w' => ∃ (d : NV) (b off : Nat), e = .returned (.tuple #[d.v, .int .i64 0, .int .i64 0]) ∧ Below u.heap.size u w' ∧ d.op = 27 ∧ d.kN = 2 ∧ 2 ≤ d.kc ∧ d.ko = some ⟨b, off, none⟩ ∧ w'.cell? ⟨b, off, none⟩ = some (.int .i64 7) ∧ w'.cell? ⟨b, off + 10, none⟩ = some (.int .i64 27)) := fun u hb => by
    refine (parse_ok knA (by decide) u (hE.keep hb) (hO.keep hb)).mono ?_
    rintro e w' ⟨T, d, hc, he, hb', hd⟩
    unfold knC at hc
    rw [Bool.and_eq_true, decide_eq_true_iff, decide_eq_true_iff] at hc
    obtain ⟨⟨c1, c3⟩, c4, c5⟩ := hc
    obtain ⟨q0, q1, _, _, q4, _, q6, _⟩ := hd.eqs
    obtain ⟨b, off, k1, k2⟩ := hd.kid (i := 1) (by omega)
    have k3 := k2 0 (by omega)
    have k4 : (T.kids[0]'(by omega)) = T.kids.getD 0 T := by rw [List.getD, List.getElem?_eq_getElem (by omega)]; rfl
    rw [k4, c4] at k3
    have k5 := k2 1 (by omega)
    have k6 : (T.kids[1]'(by omega)) = T.kids.getD 1 T := by rw [List.getD, List.getElem?_eq_getElem (by omega)]; rfl
    rw [k6, c5] at k5
    exact ⟨d, b, off, he, hb', by rw [q0, c1], by rw [q4, c3], by omega, k1, by simpa using k3, by simpa using k5⟩
  have HB : Hid (∀ (s : ByteArray) u, s.data.toList = List.replicate 65 40 → Below w.heap.size w u → Calls Tryz.prog 7 #[.string s] u fun e w' => e = .returned (.tuple #[.agg #[.int .i64 0, .int .i64 0, .string ⟨#[]⟩, .int .i64 0, .string ⟨#[]⟩, .string ⟨#[]⟩, .slice none 0 0, .slice none 0 0, .slice none 0 0, .slice none 0 0], .int .i64 172, .int .i64 64]) ∧ Below u.heap.size u w') := fun s u hs hb => by
    have hz : s.size = 65 := by rw [ba_len, hs]; rfl
    exact parse_bad (by rw [hs, hz]; exact knB) (by rw [hz]; decide) u (hE.keep hb) (hO.keep hb)
  have HD : Hid (∀ (s : ByteArray) u, s.data.toList = List.replicate 64 40 → Below w.heap.size w u → Calls Tryz.prog 7 #[.string s] u fun e w' => e = .returned (.tuple #[.agg #[.int .i64 0, .int .i64 0, .string ⟨#[]⟩, .int .i64 0, .string ⟨#[]⟩, .string ⟨#[]⟩, .slice none 0 0, .slice none 0 0, .slice none 0 0, .slice none 0 0], .int .i64 170, .int .i64 64]) ∧ Below u.heap.size u w') := fun s u hs hb => by
    have hz : s.size = 64 := by rw [ba_len, hs]; rfl
    exact parse_bad (by rw [hs, hz]; exact knD) (by rw [hz]; decide) u (hE.keep hb) (hO.keep hb)
  have HWk : Hid (∀ u, Below w.heap.size w u → Calls Tryz.prog 8 #[] u fun e w' => e = .returned (.bool true) ∧ Below u.heap.size u w') := fun u hb => worksX u (hE.keep hb) (hO.keep hb)
  clear hE hO
  go_enter Tryz.func6, Tryz.ntmps6
  go_wp2_with fail
  go_loopw [1] (fun v1 wr => ∃ k : Nat, v1 = .int .i64 (k : Int) ∧ Hid (k ≤ 12) ∧ Hid (Below w.heap.size w wr)) (fun v1 _ => 12 - (intOf v1).toNat)
  case atStart => exact ⟨0, rfl, (by show _ ≤ _; omega), Below.refl _ _⟩
  case round =>
    obtain ⟨k, rfl, Hk, HB0⟩ := hrel
    by_cases hk : k < 12
    · have HRf : Hid (∀ u, Calls Tryz.prog 12 #[.int .i64 (k : Int)] u fun e w' => e = .returned (.tuple #[.string (rfS k), .int .i64 (rfE k : Int), .int .i64 (rfA k : Int)]) ∧ Below u.heap.size u w') := fun u => refuX u k hk
      have HPk := Hid.mk (HP.out k hk)
      have hk1 : (k : Int) < 12 := by omega
      have hk2 : (0 : Int) ≤ (k : Int) := by omega
      generalize rfS k = s at *
      generalize (rfE k : Int) = er at *
      generalize (rfA k : Int) = qa at *
      go_wp2_with fail
      refine (HRf.out _).mono ?_
      rintro e w1 ⟨rfl, hb⟩
      have HB1 := Hid.mk (HB0.out.trans (hb.mono HB0.out.size))
      clear hb
      go_wp2_with fail
      refine (HPk.out _ HB1.out).mono ?_
      rintro e w2 ⟨rfl, hb⟩
      have HB2 := Hid.mk (HB1.out.trans (hb.mono HB1.out.size))
      clear hb
      go_wp2_with fail
      go_roundw
      case rel => exact ⟨k + 1, by first | rfl | simp, (by show _ ≤ _; omega), HB2.out.trans ((below1 w2 _).mono HB2.out.size)⟩
      case measure => simp [intOf]; omega
    · have hk1 : ¬ (k : Int) < 12 := by omega
      clear HP Hk
      go_wp2_with fail
      refine (HA.out _ HB0.out).mono ?_
      rintro e w1 ⟨⟨op1, at1, vk1, tx1, nu1, vt1, io1, yo1, no1, ko1, iN1, ic1, yN1, yc1, nN1, nc1, kN1, kc1⟩, g', off, rfl, hb1, h1, h3, h4, h5, h6, h7⟩
      dsimp only at h1 h3 h4 h5
      subst h1 h3 h5
      have HB1 := Hid.mk (HB0.out.trans (hb1.mono HB0.out.size))
      have k0 : ∀ x, (w1.alloc x).cell? ⟨g', off, none⟩ = some (.int .i64 7) := fun x => ((below1 w1 x).cell (p := ⟨g', off, none⟩) (block_lt_of_cell h6)).trans h6
      have k10 : ∀ x, (w1.alloc x).cell? ⟨g', off + 10, none⟩ = some (.int .i64 27) := fun x => ((below1 w1 x).cell (p := ⟨g', off + 10, none⟩) (block_lt_of_cell h7)).trans h7
      clear hb1 h6 h7 hk1 hk HA
      unfold NV.v NV.l
      dsimp only
      obtain ⟨W2, hW2⟩ : ∃ W2, w1.alloc (.cells #[.int .i64 27, .int .i64 at1, .string tx1, .int .i64 vk1, .string nu1, .string vt1, .slice io1 iN1 ic1, .slice yo1 yN1 yc1, .slice no1 nN1 nc1, .slice (some ⟨g', off, none⟩) 2 kc1] 28) = W2 := ⟨_, rfl⟩
      have HB2 : Hid (Below w.heap.size w W2) := by rw [← hW2]; exact HB1.out.trans ((below1 w1 _).mono HB1.out.size)
      clear hW2
      go_wp2_with fail
      go_loopw [11, 12] (fun v11 v12 wr => ∃ (k : Nat) (s : ByteArray), v11 = .string s ∧ v12 = .int .i64 (k : Int) ∧ Hid (k ≤ 64) ∧ Hid (s.data.toList = List.replicate k 40) ∧ Hid (Below w.heap.size w wr)) (fun _ v12 _ => 64 - (intOf v12).toNat)
      case atStart => exact ⟨0, ⟨#[]⟩, rfl, rfl, (by show _ ≤ _; omega), rfl, HB1.out.trans ((below1 w1 _).mono HB1.out.size)⟩
      case round =>
        clear HB0 HB1 HB2 k0 k10
        obtain ⟨k, s, rfl, rfl, Hk, Hs, HB0⟩ := hrel
        have Hz : Hid (s.size = k) := by show _ = _; rw [ba_len, Hs.out, List.length_replicate]
        by_cases hk : k < 64
        · have hk1 : (k : Int) < 64 := by omega
          have hk2 : (0 : Int) ≤ (k : Int) := by omega
          have hz1 : ¬ 9223372036854775807 < s.size + 1 := by have := Hz.out; omega
          go_wp2_with fail
          go_roundw
          case rel =>
            refine ⟨k + 1, s ++ ⟨#[40]⟩, by first | rfl | simp, by first | rfl | simp, (by show _ ≤ _; omega), ?_, HB0⟩
            show _ = _
            rw [ba_app, Hs.out, List.replicate_succ']
          case measure => simp [intOf]; omega
        · have hk1 : ¬ (k : Int) < 64 := by omega
          have hk3 : k = 64 := by have := Hk.out; omega
          have hz1 : ¬ 9223372036854775807 < s.size + 1 := by have := Hz.out; omega
          have HBs : Hid (∀ u, Below w.heap.size w u → Calls Tryz.prog 7 #[.string (s ++ ⟨#[40]⟩)] u fun e w' => e = .returned (.tuple #[.agg #[.int .i64 0, .int .i64 0, .string ⟨#[]⟩, .int .i64 0, .string ⟨#[]⟩, .string ⟨#[]⟩, .slice none 0 0, .slice none 0 0, .slice none 0 0, .slice none 0 0], .int .i64 172, .int .i64 64]) ∧ Below u.heap.size u w') := fun u hb => HB.out _ u (by rw [ba_app, Hs.out, hk3]; rfl) hb
          have HDs : Hid (∀ u, Below w.heap.size w u → Calls Tryz.prog 7 #[.string s] u fun e w' => e = .returned (.tuple #[.agg #[.int .i64 0, .int .i64 0, .string ⟨#[]⟩, .int .i64 0, .string ⟨#[]⟩, .string ⟨#[]⟩, .slice none 0 0, .slice none 0 0, .slice none 0 0, .slice none 0 0], .int .i64 170, .int .i64 64]) ∧ Below u.heap.size u w') := fun u hb => HD.out _ u (by rw [Hs.out, hk3]) hb
          clear hk3 hk Hk Hs Hz HB HD
          go_wp2_with fail
          refine (HBs.out _ HB0.out).mono ?_
          rintro e w2 ⟨rfl, hb⟩
          have HB1 := Hid.mk (HB0.out.trans (hb.mono HB0.out.size))
          have HB3 : Hid (∀ x, Below w.heap.size w (w2.alloc x)) := fun x => HB1.out.trans ((below1 w2 _).mono HB1.out.size)
          clear hb
          go_wp2_with fail
          refine (HDs.out _ (HB3.out _)).mono ?_
          rintro e w4 ⟨rfl, hb⟩
          have HB4 := Hid.mk ((HB3.out _).trans (hb.mono (HB3.out _).size))
          clear hb
          have HB5 : Hid (∀ x, Below w.heap.size w (w4.alloc x)) := fun x => HB4.out.trans ((below1 w4 _).mono HB4.out.size)
          go_wp2_with fail
          refine (HWk.out _ (HB5.out _)).mono ?_
          rintro e w6 ⟨rfl, hb⟩
          have HB6 := Hid.mk ((HB5.out _).trans (hb.mono (HB5.out _).size))
          clear hb
          go_wp2_with fail
          go_ret
          exact ⟨rfl, HB6.out⟩
end Go.Proofs.YtajnaiddcobkiaaGreatDoor
