import Derived.Test.YtkaaleeldpghoaaGreatM7
namespace Go.Proofs.YtkaaleeldpghoaaGreat
open Go.RowKit
set_option linter.unusedVariables false
set_option linter.unusedSimpArgs false

theorem trB1 {r : List UInt8} {lo hi : Nat} (h : trB r 1 lo hi = true) : ∃ b post, r = b :: post ∧ 128 ≤ b.toNat ∧ b.toNat ≤ 191 ∧ lo ≤ b.toNat ∧ b.toNat ≤ hi := by
  match r with
  | [] => simp [trB] at h
  | b :: post => exact ⟨b, post, rfl, by simp [trB] at h; omega⟩
theorem trB2 {r : List UInt8} {lo hi : Nat} (h : trB r 2 lo hi = true) : ∃ b d post, r = b :: d :: post ∧ 128 ≤ b.toNat ∧ b.toNat ≤ 191 ∧ 128 ≤ d.toNat ∧ d.toNat ≤ 191 ∧ lo ≤ b.toNat ∧ b.toNat ≤ hi := by
  match r with
  | [] => simp [trB] at h
  | [b] => simp [trB] at h
  | b :: d :: post => exact ⟨b, d, post, rfl, by simp [trB] at h; omega⟩
theorem trB3 {r : List UInt8} {lo hi : Nat} (h : trB r 3 lo hi = true) : ∃ b d g post, r = b :: d :: g :: post ∧ 128 ≤ b.toNat ∧ b.toNat ≤ 191 ∧ 128 ≤ d.toNat ∧ d.toNat ≤ 191 ∧ 128 ≤ g.toNat ∧ g.toNat ≤ 191 ∧ lo ≤ b.toNat ∧ b.toNat ≤ hi := by
  match r with
  | [] => simp [trB] at h
  | [b] => simp [trB] at h
  | [b, d] => simp [trB] at h
  | b :: d :: g :: post => exact ⟨b, d, g, post, rfl, by simp [trB] at h; omega⟩

theorem rW_dec (l : List UInt8) (hne : l ≠ []) (h : rW l ≠ 0) : (decL l).2 = rW l ∧ (rW l ≠ 1 ∨ (decL l).1 < 128) := by
  obtain ⟨c, r, rfl⟩ := List.exists_cons_of_ne_nil hne
  have hg : (c :: r).getD 0 0 = c := rfl
  have hd : (c :: r).drop 1 = r := rfl
  have h256 := c.toNat_lt
  unfold rW at h ⊢
  rw [hg, hd] at h ⊢
  by_cases h1 : c.toNat < 128
  · rw [if_pos h1, dec1 r rfl h1]
    exact ⟨rfl, .inr h1⟩
  rw [if_neg h1] at h ⊢
  by_cases h2 : (194 ≤ c.toNat ∧ c.toNat ≤ 223) ∧ trB r 1 128 191 = true
  · rw [if_pos h2]
    obtain ⟨⟨a1, a2⟩, ht⟩ := h2
    obtain ⟨b, post, rfl, b1, b2, _⟩ := trB1 ht
    rw [dec2 (n := (c.toNat - 192) * 64 + (b.toNat - 128)) post (by omega) (by omega) (by omega) (by omega)]
    exact ⟨rfl, .inl (by omega)⟩
  rw [if_neg h2] at h ⊢
  by_cases h3 : (224 ≤ c.toNat ∧ c.toNat ≤ 239) ∧ trB r 2 (loB c.toNat) (hiB c.toNat) = true
  · rw [if_pos h3]
    obtain ⟨⟨a1, a2⟩, ht⟩ := h3
    obtain ⟨b, d, post, rfl, b1, b2, b3, b4, b5, b6⟩ := trB2 ht
    have hR : isR ((c.toNat - 224) * 4096 + (b.toNat - 128) * 64 + (d.toNat - 128)) ∧ 0x800 ≤ (c.toNat - 224) * 4096 + (b.toNat - 128) * 64 + (d.toNat - 128) := by
      unfold loB at b5; unfold hiB at b6; unfold isR
      by_cases e1 : c.toNat = 224
      · rw [e1] at b5 b6 ⊢; simp at b5 b6; omega
      by_cases e2 : c.toNat = 237
      · rw [e2] at b5 b6 ⊢; simp at b5 b6; omega
      omega
    rw [dec3 (n := (c.toNat - 224) * 4096 + (b.toNat - 128) * 64 + (d.toNat - 128)) post (by omega) (by omega) (by omega) hR.2 (by omega) (valid_of hR.1)]
    exact ⟨rfl, .inl (by omega)⟩
  rw [if_neg h3] at h ⊢
  by_cases h4 : (240 ≤ c.toNat ∧ c.toNat ≤ 244) ∧ trB r 3 (loB c.toNat) (hiB c.toNat) = true
  · rw [if_pos h4]
    obtain ⟨⟨a1, a2⟩, ht⟩ := h4
    obtain ⟨b, d, g, post, rfl, b1, b2, b3, b4, b5, b6, b7, b8⟩ := trB3 ht
    have hR : 0x10000 ≤ (c.toNat - 240) * 262144 + (b.toNat - 128) * 4096 + (d.toNat - 128) * 64 + (g.toNat - 128) ∧ (c.toNat - 240) * 262144 + (b.toNat - 128) * 4096 + (d.toNat - 128) * 64 + (g.toNat - 128) ≤ 1114111 := by
      unfold loB at b7; unfold hiB at b8
      by_cases e1 : c.toNat = 240
      · rw [e1] at b7 b8 ⊢; simp at b7 b8; omega
      by_cases e2 : c.toNat = 244
      · rw [e2] at b7 b8 ⊢; simp at b7 b8; omega
      omega
    rw [dec4 (n := (c.toNat - 240) * 262144 + (b.toNat - 128) * 4096 + (d.toNat - 128) * 64 + (g.toNat - 128)) post (by omega) (by omega) (by omega) (by omega) hR.1 hR.2 (valid_of (by unfold isR; omega))]
    exact ⟨rfl, .inl (by omega)⟩
  rw [if_neg h4] at h
  exact absurd rfl h

theorem rW_enc (m : Nat) (hm : isR m) (post : List UInt8) : rW (enc m ++ post) ≠ 0 := by
  unfold isR at hm
  unfold enc
  by_cases h1 : m < 0x80
  · rw [if_pos h1]
    have e : ([UInt8.ofNat m] ++ post).getD 0 0 = UInt8.ofNat m := rfl
    unfold rW
    rw [e, ofNat_small (by omega), if_pos h1]; omega
  rw [if_neg h1]
  by_cases h2 : m < 0x800
  · rw [if_pos h2]
    have e : ([UInt8.ofNat (0xC0 + m / 64), UInt8.ofNat (0x80 + m % 64)] ++ post).getD 0 0 = UInt8.ofNat (0xC0 + m / 64) := rfl
    have e2 : ([UInt8.ofNat (0xC0 + m / 64), UInt8.ofNat (0x80 + m % 64)] ++ post).drop 1 = UInt8.ofNat (0x80 + m % 64) :: post := rfl
    unfold rW
    rw [e, e2, ofNat_small (by omega), if_neg (by omega), if_pos ⟨by omega, by
      unfold trB
      simp only [List.take_succ_cons, List.take_zero, List.all_cons, List.all_nil, List.getD_cons_zero, List.length_cons]
      rw [ofNat_small (by omega)]
      simp; omega⟩]
    omega
  rw [if_neg h2]
  by_cases h3 : m < 0x10000
  · rw [if_pos h3]
    have e : ([UInt8.ofNat (0xE0 + m / 4096), UInt8.ofNat (0x80 + m / 64 % 64), UInt8.ofNat (0x80 + m % 64)] ++ post).getD 0 0 = UInt8.ofNat (0xE0 + m / 4096) := rfl
    have e2 : ([UInt8.ofNat (0xE0 + m / 4096), UInt8.ofNat (0x80 + m / 64 % 64), UInt8.ofNat (0x80 + m % 64)] ++ post).drop 1 = UInt8.ofNat (0x80 + m / 64 % 64) :: UInt8.ofNat (0x80 + m % 64) :: post := rfl
    have hlo : loB (0xE0 + m / 4096) ≤ 0x80 + m / 64 % 64 := by unfold loB; (repeat' split) <;> omega
    have hhi : 0x80 + m / 64 % 64 ≤ hiB (0xE0 + m / 4096) := by unfold hiB; (repeat' split) <;> omega
    have ht : trB (UInt8.ofNat (0x80 + m / 64 % 64) :: UInt8.ofNat (0x80 + m % 64) :: post) 2 (loB (0xE0 + m / 4096)) (hiB (0xE0 + m / 4096)) = true := by
      unfold trB
      simp only [List.take_succ_cons, List.take_zero, List.all_cons, List.all_nil, List.getD_cons_zero, List.length_cons]
      rw [ofNat_small (by omega), ofNat_small (by omega)]
      simp; omega
    unfold rW
    rw [e, e2, ofNat_small (by omega), if_neg (by omega), if_neg (by omega), if_pos ⟨by omega, ht⟩]
    omega
  rw [if_neg h3]
  have e : ([UInt8.ofNat (0xF0 + m / 262144), UInt8.ofNat (0x80 + m / 4096 % 64), UInt8.ofNat (0x80 + m / 64 % 64), UInt8.ofNat (0x80 + m % 64)] ++ post).getD 0 0 = UInt8.ofNat (0xF0 + m / 262144) := rfl
  have e2 : ([UInt8.ofNat (0xF0 + m / 262144), UInt8.ofNat (0x80 + m / 4096 % 64), UInt8.ofNat (0x80 + m / 64 % 64), UInt8.ofNat (0x80 + m % 64)] ++ post).drop 1 = UInt8.ofNat (0x80 + m / 4096 % 64) :: UInt8.ofNat (0x80 + m / 64 % 64) :: UInt8.ofNat (0x80 + m % 64) :: post := rfl
  have hlo : loB (0xF0 + m / 262144) ≤ 0x80 + m / 4096 % 64 := by unfold loB; (repeat' split) <;> omega
  have hhi : 0x80 + m / 4096 % 64 ≤ hiB (0xF0 + m / 262144) := by unfold hiB; (repeat' split) <;> omega
  have ht : trB (UInt8.ofNat (0x80 + m / 4096 % 64) :: UInt8.ofNat (0x80 + m / 64 % 64) :: UInt8.ofNat (0x80 + m % 64) :: post) 3 (loB (0xF0 + m / 262144)) (hiB (0xF0 + m / 262144)) = true := by
    unfold trB
    simp only [List.take_succ_cons, List.take_zero, List.all_cons, List.all_nil, List.getD_cons_zero, List.length_cons]
    rw [ofNat_small (by omega), ofNat_small (by omega), ofNat_small (by omega)]
    simp; omega
  unfold rW
  rw [e, e2, ofNat_small (by omega), if_neg (by omega), if_neg (by omega), if_neg (by omega), if_pos ⟨by omega, ht⟩]
  omega

theorem ok_rW (l : List UInt8) (hne : l ≠ []) : (rW l = 0 ∧ okB l = false) ∨ (rW l ≠ 0 ∧ rW l ≤ l.length ∧ okB l = okB (l.drop (rW l))) := by
  rcases decL_cases l hne with ⟨m, post, hm, rfl⟩ | e
  · have h0 := rW_enc m hm post
    have h1 := (rW_dec _ hne h0).1
    rw [dec_enc m hm post] at h1
    have h1' : (enc m).length = rW (enc m ++ post) := h1
    refine .inr ⟨h0, by rw [← h1', List.length_append]; omega, ?_⟩
    rw [← h1', List.drop_left' rfl, ok_enc m hm post]
  · by_cases h0 : rW l = 0
    · exact .inl ⟨h0, ok_stray l hne e⟩
    · have h1 := rW_dec l hne h0
      rw [e] at h1
      have h2 : 1 = rW l := h1.1
      rcases h1.2 with h3 | h3
      · exact absurd h2.symm h3
      · exact absurd h3 (by show ¬ 65533 < 128; omega)

set_option maxRecDepth 100000 in
set_option maxHeartbeats 1600000 in
theorem w_UTF (s : ByteArray) (w : World) (hs : s.size ≤ 281474976710656) :
    Calls Tryz.prog 27 #[.string s] w fun e w' => e = .returned (.bool (okB s.data.toList)) ∧ w' = w := by
  go_enter Tryz.func27, Tryz.ntmps27
  go_wp2_with fail
  go_loopw [3] (fun i wr => ∃ k : Nat, k ≤ s.size ∧ i = .int .i64 (k : Int) ∧ wr = w ∧ Hid (okB s.data.toList = okB (s.data.toList.drop k))) (fun i _ => s.size - (intOf i).toNat)
  case atStart => exact ⟨0, Nat.zero_le _, rfl, rfl, rfl⟩
  case round =>
    obtain ⟨k, hk, rfl, rfl, HQ⟩ := hrel
    by_cases hlt : k < s.size
    · have hl1 : (k : Int) < (s.size : Int) := by omega
      have HW := Hid.mk (fun u => w_width s k u hlt hs)
      have hok := ok_rW (s.data.toList.drop k) (by intro e; have := congrArg List.length e; rw [List.length_drop, sizeLn, List.length_nil] at this; omega)
      rw [List.length_drop, sizeLn, List.drop_drop] at hok
      generalize rW (s.data.toList.drop k) = n at HW hok
      rcases hok with ⟨rfl, hf⟩ | ⟨hn0, hnl, hf⟩
      · have HF : Hid (okB s.data.toList = false) := by rw [HQ.out]; exact hf
        clear hf
        go_wp2_with fail
        refine (HW.out _).mono ?_
        rintro e w1 ⟨rfl, hw⟩
        obtain rfl := hw.symm
        go_wp2_with fail
        go_ret
        exact ⟨by rw [HF.out]; rfl, rfl⟩
      · have HF : Hid (okB s.data.toList = okB (s.data.toList.drop (k + n))) := by rw [HQ.out]; exact hf
        have hb : ((n : Int) == 0) = false := by rw [beq_eq_false_iff_ne]; omega
        clear hf
        go_wp2_with fail
        refine (HW.out _).mono ?_
        rintro e w1 ⟨rfl, hw⟩
        obtain rfl := hw.symm
        clear hn0
        go_wp2_with fail
        go_roundw
        case rel => exact ⟨k + n, by omega, by go_num, trivial, HF⟩
        case measure => have : (n : Int) ≠ 0 := by rw [beq_eq_false_iff_ne] at hb; exact hb
                        simp [intOf]; omega
    · have hl1 : ¬ (k : Int) < (s.size : Int) := by omega
      have HF : Hid (okB s.data.toList = true) := by
        show _ = _
        rw [HQ.out, List.drop_eq_nil_of_le (by rw [sizeLn]; omega)]; rfl
      go_wp2_with fail
      go_ret
      exact ⟨by rw [HF.out]; rfl, rfl⟩
end Go.Proofs.YtkaaleeldpghoaaGreat
