import Derived.Test.YthcohnnikmpjkaaV8
namespace Go.Proofs.Ythcohnnikmpjkaa
open Go.RowKit
set_option linter.unusedVariables false
set_option linter.unusedSimpArgs false

theorem isR_of {n : Nat} (h : Utf8.valid (n : Int) = true) : isR n := by
  unfold Utf8.valid at h
  unfold isR
  simp only [Bool.or_eq_true, Bool.and_eq_true, decide_eq_true_eq] at h
  omega

theorem u8_of {b : UInt8} {n : Nat} (h : n = b.toNat) : UInt8.ofNat n = b := by subst h; simp

theorem decL_cases (l : List UInt8) (h : l ≠ []) : (∃ n post, isR n ∧ l = enc n ++ post) ∨ decL l = (65533, 1) := by
  obtain ⟨b0, t, rfl⟩ := List.exists_cons_of_ne_nil h
  have l0 := b0.toNat_lt
  by_cases c0 : b0.toNat < 0x80
  · left
    refine ⟨b0.toNat, t, by unfold isR; omega, ?_⟩
    unfold enc
    rw [if_pos c0, u8_of rfl]; rfl
  by_cases c1 : b0.toNat / 32 = 6
  · have c2 : ¬ b0.toNat / 16 = 14 := by omega
    have c3 : ¬ b0.toNat / 8 = 30 := by omega
    cases t with
    | nil => right; simp [decL, c0, c1, c2, c3]
    | cons b1 t =>
      have l1 := b1.toNat_lt
      by_cases d1 : b1.toNat / 64 = 2
      · by_cases hc : (b0.toNat % 32) * 64 + b1.toNat % 64 ≥ 0x80
        · left
          refine ⟨(b0.toNat % 32) * 64 + b1.toNat % 64, t, by unfold isR; omega, ?_⟩
          unfold enc
          rw [if_neg (by omega), if_pos (by omega), u8_of (b := b0) (by omega), u8_of (b := b1) (by omega)]; rfl
        · right; simp [decL, c0, c1, c2, c3, d1, hc]
      · right; simp [decL, c0, c1, c2, c3, d1]
  by_cases c2 : b0.toNat / 16 = 14
  · have c3 : ¬ b0.toNat / 8 = 30 := by omega
    cases t with
    | nil => right; simp [decL, c0, c1, c2, c3]
    | cons b1 t =>
      have l1 := b1.toNat_lt
      cases t with
      | nil => right; simp [decL, c0, c1, c2, c3]
      | cons b2 t =>
        have l2 := b2.toNat_lt
        by_cases d1 : b1.toNat / 64 = 2
        · by_cases d2 : b2.toNat / 64 = 2
          · obtain ⟨c, hcc⟩ : ∃ c, c = (b0.toNat % 16) * 4096 + (b1.toNat % 64) * 64 + b2.toNat % 64 := ⟨_, rfl⟩
            by_cases hc : c ≥ 0x800
            · cases hv : Utf8.valid (c : Int) with
              | true =>
                left
                refine ⟨c, t, isR_of hv, ?_⟩
                unfold enc
                rw [if_neg (by omega), if_neg (by omega), if_pos (by omega), u8_of (b := b0) (by omega), u8_of (b := b1) (by omega), u8_of (b := b2) (by omega)]; rfl
              | false =>
                right
                simp only [decL, List.getD_cons_zero, List.getD_cons_succ, ← hcc, hv]
                simp [c0, c1, c2, c3, d1, d2]
            · right
              simp only [decL, List.getD_cons_zero, List.getD_cons_succ, ← hcc]
              simp [c0, c1, c2, c3, d1, d2, hc]
          · right; simp [decL, c0, c1, c2, c3, d1, d2]
        · right; simp [decL, c0, c1, c2, c3, d1]
  by_cases c3 : b0.toNat / 8 = 30
  · cases t with
    | nil => right; simp [decL, c0, c1, c2, c3]
    | cons b1 t =>
      have l1 := b1.toNat_lt
      cases t with
      | nil => right; simp [decL, c0, c1, c2, c3]
      | cons b2 t =>
        have l2 := b2.toNat_lt
        cases t with
        | nil => right; simp [decL, c0, c1, c2, c3]
        | cons b3 t =>
          have l3 := b3.toNat_lt
          by_cases d1 : b1.toNat / 64 = 2
          · by_cases d2 : b2.toNat / 64 = 2
            · by_cases d3 : b3.toNat / 64 = 2
              · obtain ⟨c, hcc⟩ : ∃ c, c = (b0.toNat % 8) * 262144 + (b1.toNat % 64) * 4096 + (b2.toNat % 64) * 64 + b3.toNat % 64 := ⟨_, rfl⟩
                by_cases hc : c ≥ 0x10000
                · cases hv : Utf8.valid (c : Int) with
                  | true =>
                    left
                    refine ⟨c, t, isR_of hv, ?_⟩
                    unfold enc
                    rw [if_neg (by omega), if_neg (by omega), if_neg (by omega), u8_of (b := b0) (by omega), u8_of (b := b1) (by omega), u8_of (b := b2) (by omega), u8_of (b := b3) (by omega)]; rfl
                  | false =>
                    right
                    simp only [decL, List.getD_cons_zero, List.getD_cons_succ, ← hcc, hv]
                    simp [c0, c1, c2, c3, d1, d2, d3]
                · right
                  simp only [decL, List.getD_cons_zero, List.getD_cons_succ, ← hcc]
                  simp [c0, c1, c2, c3, d1, d2, d3, hc]
              · right; simp [decL, c0, c1, c2, c3, d1, d2, d3]
            · right; simp [decL, c0, c1, c2, c3, d1, d2]
          · right; simp [decL, c0, c1, c2, c3, d1]
  · right; simp [decL, c0, c1, c2, c3]

theorem enc_err : enc 65533 = [239, 191, 189] := by decide

theorem decL_isR (l : List UInt8) (h : l ≠ []) : isR (decL l).1 := by
  rcases decL_cases l h with ⟨n, post, hn, rfl⟩ | e
  · rw [dec_enc n hn post]; exact hn
  · rw [e]; unfold isR; omega

/-- a byte that encodes nothing -/
def strayL (l : List UInt8) : Bool := (decL l).1 == 65533 && !(Lib.hasPrefix l [239, 191, 189])

theorem pre_err (post : List UInt8) : Lib.hasPrefix (enc 65533 ++ post) [239, 191, 189] = true := by rw [enc_err]; rfl
theorem pre_err_of {l : List UInt8} (h : Lib.hasPrefix l [239, 191, 189] = true) : ∃ post, l = enc 65533 ++ post := by
  rw [enc_err]
  have h' : ([239, 191, 189] : List UInt8).isPrefixOf l = true := h
  rw [List.isPrefixOf_iff_prefix] at h'
  obtain ⟨t, rfl⟩ := h'
  exact ⟨t, rfl⟩

theorem stray_enc (n : Nat) (hn : isR n) (post : List UInt8) : strayL (enc n ++ post) = false := by
  unfold strayL
  rw [dec_enc n hn post]
  by_cases h : n = 65533
  · subst h; rw [pre_err]; rfl
  · rw [show (n == 65533) = false from beq_eq_false_iff_ne.2 h]; rfl

theorem stray_or (l : List UInt8) (h : l ≠ []) : (∃ n post, isR n ∧ l = enc n ++ post ∧ strayL l = false) ∨ (decL l = (65533, 1) ∧ strayL l = true) := by
  rcases decL_cases l h with ⟨n, post, hn, rfl⟩ | e
  · exact Or.inl ⟨n, post, hn, rfl, stray_enc n hn post⟩
  · right
    refine ⟨e, ?_⟩
    unfold strayL
    rw [e]
    cases hp : Lib.hasPrefix l [239, 191, 189] with
    | false => rfl
    | true =>
      obtain ⟨post, rfl⟩ := pre_err_of hp
      rw [dec_enc 65533 (by unfold isR; omega) post, enc_err] at e
      cases e

theorem decL_take (l : List UInt8) (m : Nat) (h : l ≠ []) (hm : (decL l).2 ≤ m) : decL (l.take m) = decL l := by
  rcases decL_cases l h with ⟨n, post, hn, rfl⟩ | e
  · rw [dec_enc n hn post] at hm ⊢
    have hm' : (enc n).length ≤ m := hm
    rw [List.take_append, List.take_of_length_le hm', dec_enc n hn]
  · rw [e] at hm
    have hm' : 1 ≤ m := hm
    have hne : l.take m ≠ [] := by
      intro e2
      have := congrArg List.length e2
      have hl : 0 < l.length := List.length_pos_iff.2 h
      rw [List.length_take, List.length_nil] at this
      omega
    rcases decL_cases (l.take m) hne with ⟨n, post, hn, e2⟩ | e2
    · have e3 : l = enc n ++ (post ++ l.drop m) := by rw [← List.append_assoc, ← e2, List.take_append_drop]
      rw [e3, dec_enc n hn] at e
      have e4 : n = 65533 := congrArg Prod.fst e
      have e5 : (enc n).length = 1 := congrArg Prod.snd e
      subst e4
      rw [enc_err] at e5
      cases e5
    · rw [e2, e]

/-- where the piece of a number begins -/
def off (l : List UInt8) : Nat → Nat
  | 0 => 0
  | k + 1 => if l = [] then 0 else (decL l).2 + off (l.drop (decL l).2) k
theorem off_nil (k : Nat) : off [] k = 0 := by cases k <;> simp [off]
theorem off_succ {l : List UInt8} (h : l ≠ []) (k : Nat) : off l (k + 1) = (decL l).2 + off (l.drop (decL l).2) k := by
  simp only [off, if_neg h]
theorem off_le (k : Nat) : ∀ l : List UInt8, off l k ≤ l.length := by
  induction k with
  | zero => intro l; exact Nat.zero_le _
  | succ k ih =>
    intro l
    by_cases h : l = []
    · subst h; rw [off_nil]; exact Nat.le_refl _
    · rw [off_succ h]
      have := ih (l.drop (decL l).2)
      have h2 := decL_le l h
      rw [List.length_drop] at this
      omega
theorem off_add (i : Nat) : ∀ (l : List UInt8) (j : Nat), off l (i + j) = off l i + off (l.drop (off l i)) j := by
  induction i with
  | zero => intro l j; rw [Nat.zero_add]; show _ = 0 + off (l.drop 0) j; rw [List.drop_zero, Nat.zero_add]
  | succ i ih =>
    intro l j
    by_cases h : l = []
    · subst h; simp [off_nil]
    · rw [show i + 1 + j = (i + j) + 1 by omega, off_succ h, ih, off_succ h, List.drop_drop, Nat.add_assoc]
theorem off_step (l : List UInt8) (k : Nat) (h : l.drop (off l k) ≠ []) : off l (k + 1) = off l k + (decL (l.drop (off l k))).2 := by
  rw [off_add, off_succ h]; simp [off]
theorem off_mono (l : List UInt8) {i j : Nat} (h : i ≤ j) : off l i ≤ off l j := by
  obtain ⟨d, rfl⟩ := Nat.le.dest h
  rw [off_add]; omega
/-- behind all the pieces -/
theorem off_end (k : Nat) : ∀ l : List UInt8, (runes l).length ≤ k → off l k = l.length := by
  induction k with
  | zero =>
    intro l hk
    by_cases h : l = []
    · subst h; rfl
    · rw [runes_cons h, List.length_cons] at hk; omega
  | succ k ih =>
    intro l hk
    by_cases h : l = []
    · subst h; rfl
    · rw [runes_cons h, List.length_cons] at hk
      have h2 := decL_le l h
      rw [off_succ h, ih _ (by omega), List.length_drop]; omega
theorem off_lt (k : Nat) : ∀ l : List UInt8, k < (runes l).length → off l k < l.length := by
  induction k with
  | zero =>
    intro l hk
    by_cases h : l = []
    · subst h; rw [runes_nil] at hk; cases hk
    · exact List.length_pos_iff.2 h
  | succ k ih =>
    intro l hk
    by_cases h : l = []
    · subst h; rw [runes_nil] at hk; cases hk
    · rw [runes_cons h, List.length_cons] at hk
      have := ih (l.drop (decL l).2) (by omega)
      rw [List.length_drop] at this
      rw [off_succ h]; omega
/-- the pieces up to a number, and from it on -/
theorem runes_take (k : Nat) : ∀ l : List UInt8, runes (l.take (off l k)) = (runes l).take k := by
  induction k with
  | zero => intro l; simp [off, runes_nil]
  | succ k ih =>
    intro l
    by_cases h : l = []
    · subst h; simp [runes_nil]
    · have hp := decL_pos l
      have h2 := decL_le l h
      have hd := decL_take l (off l (k + 1)) h (by rw [off_succ h]; omega)
      have hne : l.take (off l (k + 1)) ≠ [] := by
        intro e2
        have := congrArg List.length e2
        rw [List.length_take, List.length_nil, off_succ h] at this
        omega
      rw [runes_cons hne, hd, runes_cons h, List.take_succ_cons]
      rw [off_succ h, List.drop_take, Nat.add_sub_cancel_left, ih]
theorem runes_drop (k : Nat) : ∀ l : List UInt8, runes (l.drop (off l k)) = (runes l).drop k := by
  induction k with
  | zero => intro l; simp [off]
  | succ k ih =>
    intro l
    by_cases h : l = []
    · subst h; simp [runes_nil]
    · rw [off_succ h, ← List.drop_drop, ih, runes_cons h, List.drop_succ_cons]
end Go.Proofs.Ythcohnnikmpjkaa
