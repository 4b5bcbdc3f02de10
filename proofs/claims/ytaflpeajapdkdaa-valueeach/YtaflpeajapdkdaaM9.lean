import Derived.Test.YtaflpeajapdkdaaM7
namespace Go.Proofs.Ytaflpeajapdkdaa
open Go.RowKit
set_option linter.unusedVariables false
set_option linter.unusedSimpArgs false

/-- so many bytes from 80 to BF, the first of them from one to another -/
def trB (l : List UInt8) (n lo hi : Nat) : Bool := decide (n ≤ l.length) && (l.take n).all (fun b => decide (128 ≤ b.toNat) && decide (b.toNat ≤ 191)) && (decide (lo ≤ (l.getD 0 0).toNat) && decide ((l.getD 0 0).toNat ≤ hi))

theorem byteD' {s : ByteArray} {f : Nat} (h : f < s.size) : s.data.toList.getD f 0 = s[f]'h := by
  have hl0 : f < s.data.toList.length := by rw [Array.length_toList]; exact h
  rw [List.getD_eq_getElem?_getD, List.getElem?_eq_getElem hl0]; rfl
theorem sizeLn (s : ByteArray) : s.data.toList.length = s.size := by rw [Array.length_toList]; rfl
theorem getD_dropN (l : List UInt8) (k j : Nat) : (l.drop k).getD j 0 = l.getD (k + j) 0 := by simp [List.getD, List.getElem?_drop]
theorem takeN {s : ByteArray} {f k : Nat} (h : f + k < s.size) : (s.data.toList.drop f).take (k + 1) = (s.data.toList.drop f).take k ++ [s[f + k]'h] := by
  have hl : k < (s.data.toList.drop f).length := by rw [List.length_drop, sizeLn]; omega
  rw [List.take_add_one, List.getElem?_eq_getElem hl]
  simp only [Option.toList_some, List.getElem_drop]
  rfl

set_option maxRecDepth 100000 in
set_option maxHeartbeats 1600000 in
theorem w_trail (s : ByteArray) (f n lo hi : Nat) (w : World) (hn : 1 ≤ n) (hn3 : n ≤ 3) (hf : f ≤ s.size) (hs : s.size ≤ 281474976710656) (hlo : lo ≤ 255) (hhi : hi ≤ 255) :
    Calls Try.prog 40 #[.string s, .int .i64 (f : Int), .int .i64 (n : Int), .int .u8 (lo : Int), .int .u8 (hi : Int)] w fun e w' => e = .returned (.bool (trB (s.data.toList.drop f) n lo hi)) ∧ w' = w := by
  by_cases hle : f + n ≤ s.size
  · have hg : ¬ (s.size : Int) < (f : Int) + (n : Int) := by omega
    have HL : Hid (decide (n ≤ (s.data.toList.drop f).length) = true) := by show _ = _; rw [List.length_drop, sizeLn]; exact decide_eq_true (by omega)
    have l0 : f < s.size := by omega
    have HG : Hid ((s.data.toList.drop f).getD 0 0 = s[f]'l0) := by show _ = _; rw [getD_dropN, Nat.add_zero, byteD' l0]
    go_enter Try.func40, Try.ntmps40
    go_wp2_with fail
    go_loopw [11] (fun i wr => ∃ k : Nat, k ≤ n ∧ i = .int .i64 (k : Int) ∧ wr = w ∧ Hid (((s.data.toList.drop f).take k).all (fun b => decide (128 ≤ b.toNat) && decide (b.toNat ≤ 191)) = true)) (fun i _ => n - (intOf i).toNat)
    case atStart => exact ⟨0, Nat.zero_le _, rfl, rfl, rfl⟩
    case round =>
      obtain ⟨k, hk, rfl, rfl, HQ⟩ := hrel
      by_cases hlt : k < n
      · have hl1 : (k : Int) < (n : Int) := by omega
        have lk : f + k < s.size := by omega
        have ik : (f : Int) + (k : Int) < (s.size : Int) := by omega
        obtain ⟨c, hc⟩ : ∃ c, s[f + k]'lk = c := ⟨_, rfl⟩
        have HT := Hid.mk (takeN lk)
        rw [hc] at HT
        obtain ⟨x, hx⟩ : ∃ x : Int, ((c.toNat : Nat) : Int) = x := ⟨_, rfl⟩
        have HX := Hid.mk hx
        have hx0 : 0 ≤ x := by omega
        have hx1 : x ≤ 255 := by have := c.toNat_lt; omega
        have hbad : (¬ (128 ≤ x ∧ x ≤ 191)) → trB (s.data.toList.drop f) n lo hi = false := by
          intro hb
          have : (s.data.toList.drop f |>.take n).all (fun b => decide (128 ≤ b.toNat) && decide (b.toNat ≤ 191)) = false := by
            rw [List.all_eq_false]
            refine ⟨c, ?_, ?_⟩
            · have hm1 : c ∈ (s.data.toList.drop f).take (k + 1) := by rw [HT.out]; simp
              exact List.mem_of_mem_take (i := k + 1) (by rw [List.take_take, Nat.min_eq_left (by omega)]; exact hm1)
            · simp; intro h; have := HX.out; omega
          unfold trB
          rw [this, Bool.and_false, Bool.false_and]
        have HBad := Hid.mk hbad
        clear hbad
        have hcs : x < 128 ∨ (¬ x < 128 ∧ 191 < x) ∨ (¬ x < 128 ∧ ¬ 191 < x) := by omega
        rcases hcs with a | ⟨a, b⟩ | ⟨a, b⟩
        · have HF := Hid.mk (HBad.out (by omega))
          go_wp2_with fail
          go_ret
          exact ⟨by rw [HF.out]; rfl, rfl⟩
        · have HF := Hid.mk (HBad.out (by omega))
          go_wp2_with fail
          go_ret
          exact ⟨by rw [HF.out]; rfl, rfl⟩
        · have HN : Hid (((s.data.toList.drop f).take (k + 1)).all (fun b => decide (128 ≤ b.toNat) && decide (b.toNat ≤ 191)) = true) := by
            show _ = _
            rw [HT.out, List.all_append, HQ.out]
            simp
            have := HX.out
            omega
          go_wp2_with fail
          go_roundw
          case rel => exact ⟨k + 1, hlt, by go_num, trivial, HN⟩
          case measure => simp [intOf]; omega
      · have hl1 : ¬ (k : Int) < (n : Int) := by omega
        obtain rfl : k = n := by omega
        have i0 : (f : Int) < (s.size : Int) := by omega
        obtain ⟨c, hc⟩ : ∃ c, s[f]'l0 = c := ⟨_, rfl⟩
        have HF : Hid (trB (s.data.toList.drop f) k lo hi = (decide (lo ≤ c.toNat) && decide (c.toNat ≤ hi))) := by
          show _ = _
          unfold trB
          rw [HL.out, HQ.out, HG.out, hc]; rfl
        by_cases h1 : lo ≤ c.toNat
        · have g1 : (lo : Int) ≤ (c.toNat : Int) := by omega
          by_cases h2 : c.toNat ≤ hi
          · have g2 : (c.toNat : Int) ≤ (hi : Int) := by omega
            have HF2 : Hid (trB (s.data.toList.drop f) k lo hi = true) := by rw [HF.out, decide_eq_true h1, decide_eq_true h2]; rfl
            clear h1 h2 HF
            go_wp2_with fail
            go_ret
            exact ⟨by rw [HF2.out]; first | rfl | simp, rfl⟩
          · have g2 : ¬ (c.toNat : Int) ≤ (hi : Int) := by omega
            have HF2 : Hid (trB (s.data.toList.drop f) k lo hi = false) := by rw [HF.out, decide_eq_true h1, decide_eq_false h2]; rfl
            clear h1 h2 HF
            go_wp2_with fail
            go_ret
            exact ⟨by rw [HF2.out]; first | rfl | simp, rfl⟩
        · have g1 : ¬ (lo : Int) ≤ (c.toNat : Int) := by omega
          have HF2 : Hid (trB (s.data.toList.drop f) k lo hi = false) := by rw [HF.out, decide_eq_false h1]; rfl
          clear h1 HF
          go_wp2_with fail
          go_ret
          exact ⟨by rw [HF2.out]; first | rfl | simp, rfl⟩
  · have hg : (s.size : Int) < (f : Int) + (n : Int) := by omega
    have HF : Hid (trB (s.data.toList.drop f) n lo hi = false) := by
      show _ = _
      unfold trB
      rw [List.length_drop, sizeLn, decide_eq_false (by omega)]; rfl
    go_enter Try.func40, Try.ntmps40
    go_wp2_with fail
    go_ret
    exact ⟨by rw [HF.out]; rfl, rfl⟩

def loB (c : Nat) : Nat := if c = 224 then 160 else if c = 240 then 144 else 128
def hiB (c : Nat) : Nat := if c = 237 then 159 else if c = 244 then 143 else 191
/-- the width of a rune's encoding at the head; 0: none -/
def rW (l : List UInt8) : Nat :=
  if (l.getD 0 0).toNat < 128 then 1
  else if (194 ≤ (l.getD 0 0).toNat ∧ (l.getD 0 0).toNat ≤ 223) ∧ trB (l.drop 1) 1 128 191 = true then 2
  else if (224 ≤ (l.getD 0 0).toNat ∧ (l.getD 0 0).toNat ≤ 239) ∧ trB (l.drop 1) 2 (loB (l.getD 0 0).toNat) (hiB (l.getD 0 0).toNat) = true then 3
  else if (240 ≤ (l.getD 0 0).toNat ∧ (l.getD 0 0).toNat ≤ 244) ∧ trB (l.drop 1) 3 (loB (l.getD 0 0).toNat) (hiB (l.getD 0 0).toNat) = true then 4
  else 0

set_option maxRecDepth 100000 in
set_option maxHeartbeats 6400000 in
theorem w_width (s : ByteArray) (f : Nat) (w : World) (hf : f < s.size) (hs : s.size ≤ 281474976710656) :
    Calls Try.prog 36 #[.string s, .int .i64 (f : Int)] w fun e w' => e = .returned (.int .i64 ((rW (s.data.toList.drop f) : Nat) : Int)) ∧ w' = w := by
  have i0 : (f : Int) < (s.size : Int) := by omega
  obtain ⟨c, hc⟩ : ∃ c, s[f]'hf = c := ⟨_, rfl⟩
  have hh : (s.data.toList.drop f).getD 0 0 = c := by rw [getD_dropN, Nat.add_zero, byteD' hf, hc]
  have hd1 : (s.data.toList.drop f).drop 1 = s.data.toList.drop (f + 1) := by rw [List.drop_drop]
  have HT : Hid (∀ n lo hi : Nat, 1 ≤ n → n ≤ 3 → lo ≤ 255 → hi ≤ 255 → ∀ u, Calls Try.prog 40 #[.string s, .int .i64 ((f : Int) + 1), .int .i64 (n : Int), .int .u8 (lo : Int), .int .u8 (hi : Int)] u fun e w' => e = .returned (.bool (trB (s.data.toList.drop (f + 1)) n lo hi)) ∧ w' = u) := by
    intro n lo hi h1 h2 h3 h4 u
    have := w_trail s (f + 1) n lo hi u h1 h2 (by omega) hs h3 h4
    rw [show ((f + 1 : Nat) : Int) = (f : Int) + 1 by omega] at this
    exact this
  have hR : rW (s.data.toList.drop f) = if c.toNat < 128 then 1 else if (194 ≤ c.toNat ∧ c.toNat ≤ 223) ∧ trB (s.data.toList.drop (f + 1)) 1 128 191 = true then 2 else if (224 ≤ c.toNat ∧ c.toNat ≤ 239) ∧ trB (s.data.toList.drop (f + 1)) 2 (loB c.toNat) (hiB c.toNat) = true then 3 else if (240 ≤ c.toNat ∧ c.toNat ≤ 244) ∧ trB (s.data.toList.drop (f + 1)) 3 (loB c.toNat) (hiB c.toNat) = true then 4 else 0 := by
    unfold rW; rw [hh, hd1]
  have hx1 := c.toNat_lt
  clear hh hd1
  obtain ⟨x, hx⟩ : ∃ x : Int, ((c.toNat : Nat) : Int) = x := ⟨_, rfl⟩
  have hcs : x < 128 ∨ (¬ x < 128 ∧ ¬ 194 ≤ x) ∨ (¬ x < 128 ∧ 194 ≤ x ∧ x ≤ 223) ∨ (¬ x < 128 ∧ 194 ≤ x ∧ ¬ x ≤ 223 ∧ 224 ≤ x ∧ x ≤ 239) ∨ (¬ x < 128 ∧ 194 ≤ x ∧ ¬ x ≤ 223 ∧ 224 ≤ x ∧ ¬ x ≤ 239 ∧ 240 ≤ x ∧ x ≤ 244) ∨ (¬ x < 128 ∧ 194 ≤ x ∧ ¬ x ≤ 223 ∧ 224 ≤ x ∧ ¬ x ≤ 239 ∧ 240 ≤ x ∧ ¬ x ≤ 244) := by omega
  rcases hcs with a | ⟨a, b⟩ | ⟨a, b, d⟩ | ⟨a, b, d, e, g⟩ | ⟨a, b, d, e, g, i, j⟩ | ⟨a, b, d, e, g, i, j⟩
  · have HF : Hid (rW (s.data.toList.drop f) = 1) := by show _ = _; rw [hR, if_pos (by omega)]
    clear hR hx1
    go_enter Try.func36, Try.ntmps36
    go_wp2_with fail
    go_ret
    exact ⟨by rw [HF.out]; rfl, rfl⟩
  · have HF : Hid (rW (s.data.toList.drop f) = 0) := by show _ = _; rw [hR, if_neg (by omega), if_neg (by omega), if_neg (by omega), if_neg (by omega)]
    have q1 : (x == 224) = false := by rw [beq_eq_false_iff_ne]; omega
    have q2 : (x == 237) = false := by rw [beq_eq_false_iff_ne]; omega
    have q3 : (x == 240) = false := by rw [beq_eq_false_iff_ne]; omega
    have q4 : (x == 244) = false := by rw [beq_eq_false_iff_ne]; omega
    have z1 : ¬ 224 ≤ x := by omega
    have z2 : ¬ 240 ≤ x := by omega
    clear hR hx1
    go_enter Try.func36, Try.ntmps36
    go_wp2_with fail
    go_ret
    exact ⟨by rw [HF.out]; rfl, rfl⟩
  · have q1 : (x == 224) = false := by rw [beq_eq_false_iff_ne]; omega
    have q2 : (x == 237) = false := by rw [beq_eq_false_iff_ne]; omega
    have q3 : (x == 240) = false := by rw [beq_eq_false_iff_ne]; omega
    have q4 : (x == 244) = false := by rw [beq_eq_false_iff_ne]; omega
    have z1 : ¬ 224 ≤ x := by omega
    have z2 : ¬ 240 ≤ x := by omega
    have HT1 := Hid.mk (HT.out 1 128 191 (by omega) (by omega) (by omega) (by omega))
    cases ht : trB (s.data.toList.drop (f + 1)) 1 128 191 with
    | true =>
      rw [ht] at HT1
      have HF : Hid (rW (s.data.toList.drop f) = 2) := by show _ = _; rw [hR, if_neg (by omega), if_pos ⟨by omega, ht⟩]
      clear hR hx1 ht HT
      go_enter Try.func36, Try.ntmps36
      go_wp2_with fail
      refine (HT1.out _).mono ?_
      rintro e w1 ⟨rfl, hw⟩
      obtain rfl := hw.symm
      go_wp2_with fail
      go_ret
      exact ⟨by rw [HF.out]; rfl, rfl⟩
    | false =>
      rw [ht] at HT1
      have HF : Hid (rW (s.data.toList.drop f) = 0) := by show _ = _; rw [hR, if_neg (by omega), if_neg (by rw [ht]; simp), if_neg (by omega), if_neg (by omega)]
      clear hR hx1 ht HT
      go_enter Try.func36, Try.ntmps36
      go_wp2_with fail
      refine (HT1.out _).mono ?_
      rintro e w1 ⟨rfl, hw⟩
      obtain rfl := hw.symm
      go_wp2_with fail
      go_ret
      exact ⟨by rw [HF.out]; rfl, rfl⟩
  · have q3 : (x == 240) = false := by rw [beq_eq_false_iff_ne]; omega
    have q4 : (x == 244) = false := by rw [beq_eq_false_iff_ne]; omega
    have z2 : ¬ 240 ≤ x := by omega
    obtain ⟨lo, hi, hlo, hhi, hl2, hh2, hcase⟩ : ∃ lo hi : Nat, loB c.toNat = lo ∧ hiB c.toNat = hi ∧ lo ≤ 255 ∧ hi ≤ 255 ∧ (((x == 224) = true ∧ (x == 237) = false ∧ lo = 160 ∧ hi = 191) ∨ ((x == 224) = false ∧ (x == 237) = true ∧ lo = 128 ∧ hi = 159) ∨ ((x == 224) = false ∧ (x == 237) = false ∧ lo = 128 ∧ hi = 191)) := by
      by_cases h1 : x = 224
      · have hc1 : c.toNat = 224 := by omega
        exact ⟨160, 191, by rw [hc1]; rfl, by rw [hc1]; rfl, by omega, by omega, .inl ⟨by rw [h1]; rfl, by rw [h1]; rfl, rfl, rfl⟩⟩
      by_cases h2 : x = 237
      · have hc1 : c.toNat = 237 := by omega
        exact ⟨128, 159, by rw [hc1]; rfl, by rw [hc1]; rfl, by omega, by omega, .inr (.inl ⟨by rw [h2]; rfl, by rw [h2]; rfl, rfl, rfl⟩)⟩
      · exact ⟨128, 191, by unfold loB; rw [if_neg (by omega), if_neg (by omega)], by unfold hiB; rw [if_neg (by omega), if_neg (by omega)], by omega, by omega, .inr (.inr ⟨by rw [beq_eq_false_iff_ne]; exact h1, by rw [beq_eq_false_iff_ne]; exact h2, rfl, rfl⟩)⟩
    rw [hlo, hhi] at hR
    have HT1 := Hid.mk (HT.out 2 lo hi (by omega) (by omega) hl2 hh2)
    clear hlo hhi HT
    cases ht : trB (s.data.toList.drop (f + 1)) 2 lo hi with
    | true =>
      rw [ht] at HT1
      have HF : Hid (rW (s.data.toList.drop f) = 3) := by show _ = _; rw [hR, if_neg (by omega), if_neg (by omega), if_pos ⟨by omega, ht⟩]
      clear hR hx1 ht
      rcases hcase with ⟨q1, q2, rfl, rfl⟩ | ⟨q1, q2, rfl, rfl⟩ | ⟨q1, q2, rfl, rfl⟩
      all_goals
        go_enter Try.func36, Try.ntmps36
        go_wp2_with fail
        refine (HT1.out _).mono ?_
        rintro e w1 ⟨rfl, hw⟩
        obtain rfl := hw.symm
        go_wp2_with fail
        go_ret
        exact ⟨by rw [HF.out]; rfl, rfl⟩
    | false =>
      rw [ht] at HT1
      have HF : Hid (rW (s.data.toList.drop f) = 0) := by show _ = _; rw [hR, if_neg (by omega), if_neg (by omega), if_neg (by rw [ht]; simp), if_neg (by omega)]
      clear hR hx1 ht
      rcases hcase with ⟨q1, q2, rfl, rfl⟩ | ⟨q1, q2, rfl, rfl⟩ | ⟨q1, q2, rfl, rfl⟩
      all_goals
        go_enter Try.func36, Try.ntmps36
        go_wp2_with fail
        refine (HT1.out _).mono ?_
        rintro e w1 ⟨rfl, hw⟩
        obtain rfl := hw.symm
        go_wp2_with fail
        go_ret
        exact ⟨by rw [HF.out]; rfl, rfl⟩
  · have q1 : (x == 224) = false := by rw [beq_eq_false_iff_ne]; omega
    have q2 : (x == 237) = false := by rw [beq_eq_false_iff_ne]; omega
    obtain ⟨lo, hi, hlo, hhi, hl2, hh2, hcase⟩ : ∃ lo hi : Nat, loB c.toNat = lo ∧ hiB c.toNat = hi ∧ lo ≤ 255 ∧ hi ≤ 255 ∧ (((x == 240) = true ∧ (x == 244) = false ∧ lo = 144 ∧ hi = 191) ∨ ((x == 240) = false ∧ (x == 244) = true ∧ lo = 128 ∧ hi = 143) ∨ ((x == 240) = false ∧ (x == 244) = false ∧ lo = 128 ∧ hi = 191)) := by
      by_cases h1 : x = 240
      · have hc1 : c.toNat = 240 := by omega
        exact ⟨144, 191, by rw [hc1]; rfl, by rw [hc1]; rfl, by omega, by omega, .inl ⟨by rw [h1]; rfl, by rw [h1]; rfl, rfl, rfl⟩⟩
      by_cases h2 : x = 244
      · have hc1 : c.toNat = 244 := by omega
        exact ⟨128, 143, by rw [hc1]; rfl, by rw [hc1]; rfl, by omega, by omega, .inr (.inl ⟨by rw [h2]; rfl, by rw [h2]; rfl, rfl, rfl⟩)⟩
      · exact ⟨128, 191, by unfold loB; rw [if_neg (by omega), if_neg (by omega)], by unfold hiB; rw [if_neg (by omega), if_neg (by omega)], by omega, by omega, .inr (.inr ⟨by rw [beq_eq_false_iff_ne]; exact h1, by rw [beq_eq_false_iff_ne]; exact h2, rfl, rfl⟩)⟩
    rw [hlo, hhi] at hR
    have HT1 := Hid.mk (HT.out 3 lo hi (by omega) (by omega) hl2 hh2)
    clear hlo hhi HT
    cases ht : trB (s.data.toList.drop (f + 1)) 3 lo hi with
    | true =>
      rw [ht] at HT1
      have HF : Hid (rW (s.data.toList.drop f) = 4) := by show _ = _; rw [hR, if_neg (by omega), if_neg (by omega), if_neg (by omega), if_pos ⟨by omega, ht⟩]
      clear hR hx1 ht
      rcases hcase with ⟨q3, q4, rfl, rfl⟩ | ⟨q3, q4, rfl, rfl⟩ | ⟨q3, q4, rfl, rfl⟩
      all_goals
        go_enter Try.func36, Try.ntmps36
        go_wp2_with fail
        refine (HT1.out _).mono ?_
        rintro e w1 ⟨rfl, hw⟩
        obtain rfl := hw.symm
        go_wp2_with fail
        go_ret
        exact ⟨by rw [HF.out]; rfl, rfl⟩
    | false =>
      rw [ht] at HT1
      have HF : Hid (rW (s.data.toList.drop f) = 0) := by show _ = _; rw [hR, if_neg (by omega), if_neg (by omega), if_neg (by omega), if_neg (by rw [ht]; simp)]
      clear hR hx1 ht
      rcases hcase with ⟨q3, q4, rfl, rfl⟩ | ⟨q3, q4, rfl, rfl⟩ | ⟨q3, q4, rfl, rfl⟩
      all_goals
        go_enter Try.func36, Try.ntmps36
        go_wp2_with fail
        refine (HT1.out _).mono ?_
        rintro e w1 ⟨rfl, hw⟩
        obtain rfl := hw.symm
        go_wp2_with fail
        go_ret
        exact ⟨by rw [HF.out]; rfl, rfl⟩
  · have HF : Hid (rW (s.data.toList.drop f) = 0) := by show _ = _; rw [hR, if_neg (by omega), if_neg (by omega), if_neg (by omega), if_neg (by omega)]
    have q1 : (x == 224) = false := by rw [beq_eq_false_iff_ne]; omega
    have q2 : (x == 237) = false := by rw [beq_eq_false_iff_ne]; omega
    have q3 : (x == 240) = false := by rw [beq_eq_false_iff_ne]; omega
    have q4 : (x == 244) = false := by rw [beq_eq_false_iff_ne]; omega
    clear hR hx1
    go_enter Try.func36, Try.ntmps36
    go_wp2_with fail
    go_ret
    exact ⟨by rw [HF.out]; rfl, rfl⟩
end Go.Proofs.Ytaflpeajapdkdaa
namespace Go.Proofs.Ytaflpeajapdkdaa
open Go.RowKit
set_option linter.unusedVariables false
set_option linter.unusedSimpArgs false

theorem trB1 {r : List UInt8} {lo hi : Nat} (h : trB r 1 lo hi = true) : ∃ b post, r = b :: post ∧ 128 ≤ b.toNat ∧ b.toNat ≤ 191 ∧ lo ≤ b.toNat ∧ b.toNat ≤ hi := by
  match r with
  | [] => simp [trB] at h
  | b :: post => exact ⟨b, post, rfl, by simp [trB] at h; omega⟩
theorem trB2 {r : List UInt8} {lo hi : Nat} (h : trB r 2 lo hi = true) : ∃ b d post, r = b :: d :: post ∧ 128 ≤ b.toNat ∧ b.toNat ≤ 191 ∧ 128 ≤ d.toNat ∧ d.toNat ≤ 191 ∧ lo ≤ b.toNat ∧ b.toNat ≤ hi := by
  match r with
  | [] => simp [trB] at h
  | [b] => simp [trB] at h
  | b :: d :: post => exact ⟨b, d, post, rfl, by simp [trB] at h; omega⟩
theorem trB3 {r : List UInt8} {lo hi : Nat} (h : trB r 3 lo hi = true) : ∃ b d g post, r = b :: d :: g :: post ∧ 128 ≤ b.toNat ∧ b.toNat ≤ 191 ∧ 128 ≤ d.toNat ∧ d.toNat ≤ 191 ∧ 128 ≤ g.toNat ∧ g.toNat ≤ 191 ∧ lo ≤ b.toNat ∧ b.toNat ≤ hi := by
  match r with
  | [] => simp [trB] at h
  | [b] => simp [trB] at h
  | [b, d] => simp [trB] at h
  | b :: d :: g :: post => exact ⟨b, d, g, post, rfl, by simp [trB] at h; omega⟩

theorem rW_dec (l : List UInt8) (hne : l ≠ []) (h : rW l ≠ 0) : (decL l).2 = rW l ∧ (rW l ≠ 1 ∨ (decL l).1 < 128) := by
  obtain ⟨c, r, rfl⟩ := List.exists_cons_of_ne_nil hne
  have hg : (c :: r).getD 0 0 = c := rfl
  have hd : (c :: r).drop 1 = r := rfl
  have h256 := c.toNat_lt
  unfold rW at h ⊢
  rw [hg, hd] at h ⊢
  by_cases h1 : c.toNat < 128
  · rw [if_pos h1, dec1 r rfl h1]
    exact ⟨rfl, .inr h1⟩
  rw [if_neg h1] at h ⊢
  by_cases h2 : (194 ≤ c.toNat ∧ c.toNat ≤ 223) ∧ trB r 1 128 191 = true
  · rw [if_pos h2]
    obtain ⟨⟨a1, a2⟩, ht⟩ := h2
    obtain ⟨b, post, rfl, b1, b2, _⟩ := trB1 ht
    rw [dec2 (n := (c.toNat - 192) * 64 + (b.toNat - 128)) post (by omega) (by omega) (by omega) (by omega)]
    exact ⟨rfl, .inl (by omega)⟩
  rw [if_neg h2] at h ⊢
  by_cases h3 : (224 ≤ c.toNat ∧ c.toNat ≤ 239) ∧ trB r 2 (loB c.toNat) (hiB c.toNat) = true
  · rw [if_pos h3]
    obtain ⟨⟨a1, a2⟩, ht⟩ := h3
    obtain ⟨b, d, post, rfl, b1, b2, b3, b4, b5, b6⟩ := trB2 ht
    have hR : isR ((c.toNat - 224) * 4096 + (b.toNat - 128) * 64 + (d.toNat - 128)) ∧ 0x800 ≤ (c.toNat - 224) * 4096 + (b.toNat - 128) * 64 + (d.toNat - 128) := by
      unfold loB at b5; unfold hiB at b6; unfold isR
      by_cases e1 : c.toNat = 224
      · rw [e1] at b5 b6 ⊢; simp at b5 b6; omega
      by_cases e2 : c.toNat = 237
      · rw [e2] at b5 b6 ⊢; simp at b5 b6; omega
      omega
    rw [dec3 (n := (c.toNat - 224) * 4096 + (b.toNat - 128) * 64 + (d.toNat - 128)) post (by omega) (by omega) (by omega) hR.2 (by omega) (valid_of hR.1)]
    exact ⟨rfl, .inl (by omega)⟩
  rw [if_neg h3] at h ⊢
  by_cases h4 : (240 ≤ c.toNat ∧ c.toNat ≤ 244) ∧ trB r 3 (loB c.toNat) (hiB c.toNat) = true
  · rw [if_pos h4]
    obtain ⟨⟨a1, a2⟩, ht⟩ := h4
    obtain ⟨b, d, g, post, rfl, b1, b2, b3, b4, b5, b6, b7, b8⟩ := trB3 ht
    have hR : 0x10000 ≤ (c.toNat - 240) * 262144 + (b.toNat - 128) * 4096 + (d.toNat - 128) * 64 + (g.toNat - 128) ∧ (c.toNat - 240) * 262144 + (b.toNat - 128) * 4096 + (d.toNat - 128) * 64 + (g.toNat - 128) ≤ 1114111 := by
      unfold loB at b7; unfold hiB at b8
      by_cases e1 : c.toNat = 240
      · rw [e1] at b7 b8 ⊢; simp at b7 b8; omega
      by_cases e2 : c.toNat = 244
      · rw [e2] at b7 b8 ⊢; simp at b7 b8; omega
      omega
    rw [dec4 (n := (c.toNat - 240) * 262144 + (b.toNat - 128) * 4096 + (d.toNat - 128) * 64 + (g.toNat - 128)) post (by omega) (by omega) (by omega) (by omega) hR.1 hR.2 (valid_of (by unfold isR; omega))]
    exact ⟨rfl, .inl (by omega)⟩
  rw [if_neg h4] at h
  exact absurd rfl h

theorem rW_enc (m : Nat) (hm : isR m) (post : List UInt8) : rW (enc m ++ post) ≠ 0 := by
  unfold isR at hm
  unfold enc
  by_cases h1 : m < 0x80
  · rw [if_pos h1]
    have e : ([UInt8.ofNat m] ++ post).getD 0 0 = UInt8.ofNat m := rfl
    unfold rW
    rw [e, ofNat_small (by omega), if_pos h1]; omega
  rw [if_neg h1]
  by_cases h2 : m < 0x800
  · rw [if_pos h2]
    have e : ([UInt8.ofNat (0xC0 + m / 64), UInt8.ofNat (0x80 + m % 64)] ++ post).getD 0 0 = UInt8.ofNat (0xC0 + m / 64) := rfl
    have e2 : ([UInt8.ofNat (0xC0 + m / 64), UInt8.ofNat (0x80 + m % 64)] ++ post).drop 1 = UInt8.ofNat (0x80 + m % 64) :: post := rfl
    unfold rW
    rw [e, e2, ofNat_small (by omega), if_neg (by omega), if_pos ⟨by omega, by
      unfold trB
      simp only [List.take_succ_cons, List.take_zero, List.all_cons, List.all_nil, List.getD_cons_zero, List.length_cons]
      rw [ofNat_small (by omega)]
      simp; omega⟩]
    omega
  rw [if_neg h2]
  by_cases h3 : m < 0x10000
  · rw [if_pos h3]
    have e : ([UInt8.ofNat (0xE0 + m / 4096), UInt8.ofNat (0x80 + m / 64 % 64), UInt8.ofNat (0x80 + m % 64)] ++ post).getD 0 0 = UInt8.ofNat (0xE0 + m / 4096) := rfl
    have e2 : ([UInt8.ofNat (0xE0 + m / 4096), UInt8.ofNat (0x80 + m / 64 % 64), UInt8.ofNat (0x80 + m % 64)] ++ post).drop 1 = UInt8.ofNat (0x80 + m / 64 % 64) :: UInt8.ofNat (0x80 + m % 64) :: post := rfl
    have hlo : loB (0xE0 + m / 4096) ≤ 0x80 + m / 64 % 64 := by unfold loB; (repeat' split) <;> omega
    have hhi : 0x80 + m / 64 % 64 ≤ hiB (0xE0 + m / 4096) := by unfold hiB; (repeat' split) <;> omega
    have ht : trB (UInt8.ofNat (0x80 + m / 64 % 64) :: UInt8.ofNat (0x80 + m % 64) :: post) 2 (loB (0xE0 + m / 4096)) (hiB (0xE0 + m / 4096)) = true := by
      unfold trB
      simp only [List.take_succ_cons, List.take_zero, List.all_cons, List.all_nil, List.getD_cons_zero, List.length_cons]
      rw [ofNat_small (by omega), ofNat_small (by omega)]
      simp; omega
    unfold rW
    rw [e, e2, ofNat_small (by omega), if_neg (by omega), if_neg (by omega), if_pos ⟨by omega, ht⟩]
    omega
  rw [if_neg h3]
  have e : ([UInt8.ofNat (0xF0 + m / 262144), UInt8.ofNat (0x80 + m / 4096 % 64), UInt8.ofNat (0x80 + m / 64 % 64), UInt8.ofNat (0x80 + m % 64)] ++ post).getD 0 0 = UInt8.ofNat (0xF0 + m / 262144) := rfl
  have e2 : ([UInt8.ofNat (0xF0 + m / 262144), UInt8.ofNat (0x80 + m / 4096 % 64), UInt8.ofNat (0x80 + m / 64 % 64), UInt8.ofNat (0x80 + m % 64)] ++ post).drop 1 = UInt8.ofNat (0x80 + m / 4096 % 64) :: UInt8.ofNat (0x80 + m / 64 % 64) :: UInt8.ofNat (0x80 + m % 64) :: post := rfl
  have hlo : loB (0xF0 + m / 262144) ≤ 0x80 + m / 4096 % 64 := by unfold loB; (repeat' split) <;> omega
  have hhi : 0x80 + m / 4096 % 64 ≤ hiB (0xF0 + m / 262144) := by unfold hiB; (repeat' split) <;> omega
  have ht : trB (UInt8.ofNat (0x80 + m / 4096 % 64) :: UInt8.ofNat (0x80 + m / 64 % 64) :: UInt8.ofNat (0x80 + m % 64) :: post) 3 (loB (0xF0 + m / 262144)) (hiB (0xF0 + m / 262144)) = true := by
    unfold trB
    simp only [List.take_succ_cons, List.take_zero, List.all_cons, List.all_nil, List.getD_cons_zero, List.length_cons]
    rw [ofNat_small (by omega), ofNat_small (by omega), ofNat_small (by omega)]
    simp; omega
  unfold rW
  rw [e, e2, ofNat_small (by omega), if_neg (by omega), if_neg (by omega), if_neg (by omega), if_pos ⟨by omega, ht⟩]
  omega

theorem ok_rW (l : List UInt8) (hne : l ≠ []) : (rW l = 0 ∧ okB l = false) ∨ (rW l ≠ 0 ∧ rW l ≤ l.length ∧ okB l = okB (l.drop (rW l))) := by
  rcases decL_cases l hne with ⟨m, post, hm, rfl⟩ | e
  · have h0 := rW_enc m hm post
    have h1 := (rW_dec _ hne h0).1
    rw [dec_enc m hm post] at h1
    have h1' : (enc m).length = rW (enc m ++ post) := h1
    refine .inr ⟨h0, by rw [← h1', List.length_append]; omega, ?_⟩
    rw [← h1', List.drop_left' rfl, ok_enc m hm post]
  · by_cases h0 : rW l = 0
    · exact .inl ⟨h0, ok_stray l hne e⟩
    · have h1 := rW_dec l hne h0
      rw [e] at h1
      have h2 : 1 = rW l := h1.1
      rcases h1.2 with h3 | h3
      · exact absurd h2.symm h3
      · exact absurd h3 (by show ¬ 65533 < 128; omega)

set_option maxRecDepth 100000 in
set_option maxHeartbeats 1600000 in
theorem w_UTF (s : ByteArray) (w : World) (hs : s.size ≤ 281474976710656) :
    Calls Try.prog 18 #[.string s] w fun e w' => e = .returned (.bool (okB s.data.toList)) ∧ w' = w := by
  go_enter Try.func18, Try.ntmps18
  go_wp2_with fail
  go_loopw [3] (fun i wr => ∃ k : Nat, k ≤ s.size ∧ i = .int .i64 (k : Int) ∧ wr = w ∧ Hid (okB s.data.toList = okB (s.data.toList.drop k))) (fun i _ => s.size - (intOf i).toNat)
  case atStart => exact ⟨0, Nat.zero_le _, rfl, rfl, rfl⟩
  case round =>
    obtain ⟨k, hk, rfl, rfl, HQ⟩ := hrel
    by_cases hlt : k < s.size
    · have hl1 : (k : Int) < (s.size : Int) := by omega
      have HW := Hid.mk (fun u => w_width s k u hlt hs)
      have hok := ok_rW (s.data.toList.drop k) (by intro e; have := congrArg List.length e; rw [List.length_drop, sizeLn, List.length_nil] at this; omega)
      rw [List.length_drop, sizeLn, List.drop_drop] at hok
      generalize rW (s.data.toList.drop k) = n at HW hok
      rcases hok with ⟨rfl, hf⟩ | ⟨hn0, hnl, hf⟩
      · have HF : Hid (okB s.data.toList = false) := by rw [HQ.out]; exact hf
        clear hf
        go_wp2_with fail
        refine (HW.out _).mono ?_
        rintro e w1 ⟨rfl, hw⟩
        obtain rfl := hw.symm
        go_wp2_with fail
        go_ret
        exact ⟨by rw [HF.out]; rfl, rfl⟩
      · have HF : Hid (okB s.data.toList = okB (s.data.toList.drop (k + n))) := by rw [HQ.out]; exact hf
        have hb : ((n : Int) == 0) = false := by rw [beq_eq_false_iff_ne]; omega
        clear hf
        go_wp2_with fail
        refine (HW.out _).mono ?_
        rintro e w1 ⟨rfl, hw⟩
        obtain rfl := hw.symm
        clear hn0
        go_wp2_with fail
        go_roundw
        case rel => exact ⟨k + n, by omega, by go_num, trivial, HF⟩
        case measure => have : (n : Int) ≠ 0 := by rw [beq_eq_false_iff_ne] at hb; exact hb
                        simp [intOf]; omega
    · have hl1 : ¬ (k : Int) < (s.size : Int) := by omega
      have HF : Hid (okB s.data.toList = true) := by
        show _ = _
        rw [HQ.out, List.drop_eq_nil_of_le (by rw [sizeLn]; omega)]; rfl
      go_wp2_with fail
      go_ret
      exact ⟨by rw [HF.out]; rfl, rfl⟩
end Go.Proofs.Ytaflpeajapdkdaa
