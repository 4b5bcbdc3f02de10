import Derived.Test.YtaflpeajapdkdaaM6
import Derived.Laws.IdiomStrings
namespace Go.Proofs.Ytaflpeajapdkdaa
open Go.RowKit
set_option linter.unusedVariables false
set_option linter.unusedSimpArgs false

theorem decL_pos (l : List UInt8) : 1 ≤ (decL l).2 := by
  simp only [decL]
  repeat' split
  all_goals simp

theorem decL_le (l : List UInt8) (h : l ≠ []) : (decL l).2 ≤ l.length := by
  have hl : 0 < l.length := List.length_pos_iff.2 h
  simp only [decL]
  repeat' split
  all_goals simp_all
  all_goals omega

/-- the pieces of a row of bytes: the rune and the width of each -/
def pcsF : Nat → List UInt8 → List (Nat × Nat)
  | 0, _ => []
  | f + 1, l => if l = [] then [] else decL l :: pcsF f (l.drop (decL l).2)
def pcs (l : List UInt8) : List (Nat × Nat) := pcsF l.length l

theorem pcsF_eq : ∀ (f : Nat) (l : List UInt8), l.length ≤ f → pcsF f l = pcs l := by
  intro f
  induction f using Nat.strongRecOn with
  | _ f ih =>
    intro l hl
    cases f with
    | zero =>
      have e : l = [] := List.eq_nil_of_length_eq_zero (by omega)
      subst e; rfl
    | succ f =>
      by_cases hn : l = []
      · subst hn; rfl
      · have hp := decL_pos l
        have hlen : 0 < l.length := List.length_pos_iff.2 hn
        obtain ⟨m, hm⟩ : ∃ m, l.length = m + 1 := ⟨l.length - 1, by omega⟩
        unfold pcs
        rw [hm]
        simp only [pcsF, if_neg hn]
        rw [ih f (by omega) _ (by simp; omega)]
        rw [ih m (by omega) _ (by simp; omega)]
theorem pcs_nil : pcs [] = [] := rfl
theorem pcs_cons {l : List UInt8} (h : l ≠ []) : pcs l = decL l :: pcs (l.drop (decL l).2) := by
  have hlen : 0 < l.length := List.length_pos_iff.2 h
  obtain ⟨m, hm⟩ : ∃ m, l.length = m + 1 := ⟨l.length - 1, by omega⟩
  have hp := decL_pos l
  unfold pcs
  rw [hm]
  simp only [pcsF, if_neg h]
  rw [pcsF_eq m _ (by simp; omega)]
  rfl

/-- what the pieces stand for -/
def runes (l : List UInt8) : List Nat := (pcs l).map (·.1)
theorem runes_nil : runes [] = [] := rfl
theorem runes_cons {l : List UInt8} (h : l ≠ []) : runes l = (decL l).1 :: runes (l.drop (decL l).2) := by unfold runes; rw [pcs_cons h]; rfl
theorem runes_len_le (l : List UInt8) : (runes l).length ≤ l.length := by
  have : ∀ n, ∀ l : List UInt8, l.length ≤ n → (runes l).length ≤ l.length := by
    intro n
    induction n with
    | zero =>
      intro l hl
      have e : l = [] := List.eq_nil_of_length_eq_zero (by omega)
      subst e; exact Nat.le_refl _
    | succ n ih =>
      intro l hl
      by_cases h : l = []
      · subst h; exact Nat.le_refl _
      · have hp := decL_pos l
        have hlen : 0 < l.length := List.length_pos_iff.2 h
        rw [runes_cons h, List.length_cons]
        have := ih (l.drop (decL l).2) (by simp; omega)
        simp at this
        omega
  exact this l.length l (Nat.le_refl _)

theorem runesFrom_eq (s : ByteArray) : ∀ (b i : Nat) (acc : Array Value), i ≤ s.size → s.size - i ≤ b → Conv.runesFrom s b i acc = acc ++ ((runes (s.data.toList.drop i)).map fun (r : Nat) => Value.int .i32 (r : Int)).toArray := by
  intro b
  induction b with
  | zero =>
    intro i acc hi hb
    have : s.data.toList.drop i = [] := List.drop_eq_nil_of_le (by simp; omega)
    rw [this]
    simp [Conv.runesFrom, runes_nil]
  | succ b ih =>
    intro i acc hi hb
    by_cases h : i < s.size
    · have hne : s.data.toList.drop i ≠ [] := by
        intro e
        have := congrArg List.length e
        simp at this
        omega
      have hd := decode_eq s i hi
      have hp := decL_pos (s.data.toList.drop i)
      have hle := decL_le _ hne
      have hl : (s.data.toList.drop i).length = s.size - i := by simp
      rw [Conv.runesFrom, if_pos h]
      simp only [hd]
      rw [ih _ _ (by omega) (by omega), runes_cons hne, List.drop_drop]
      simp
    · have : s.data.toList.drop i = [] := List.drop_eq_nil_of_le (by simp; omega)
      rw [Conv.runesFrom, if_neg h, this]
      simp [runes_nil]

/-- a slice of runes -/
def RS (w : World) (v : Value) (zs : List Nat) : Prop := ∃ g cap, v = .slice (some ⟨g, 0, none⟩) zs.length cap ∧ zs.length ≤ cap ∧ g < w.heap.size ∧ ∀ i, i < zs.length → w.cell? ⟨g, i, none⟩ = some (.int .i32 ((zs.getD i 0 : Nat) : Int))
theorem RS.keep {w w' : World} {v : Value} {zs : List Nat} (h : RS w v zs) (hb : Below w.heap.size w w') : RS w' v zs := by
  obtain ⟨g, cap, hv, hc, hg, hr⟩ := h
  exact ⟨g, cap, hv, hc, Nat.lt_of_lt_of_le hg hb.size, fun i hi => (hb.cell (p := ⟨g, i, none⟩) hg).trans (hr i hi)⟩

theorem enc_bytes (r : Int) : Utf8.encode r = ⟨(enc (rn r)).toArray⟩ := by
  have := encode_enc r
  apply ByteArray.ext
  apply Array.ext'
  simpa using this

theorem foldl_enc (zs : List Int) : ∀ (l : List UInt8), zs.foldl (fun r n => r ++ Utf8.encode n) (ByteArray.mk l.toArray) = ⟨(l ++ zs.flatMap fun z => enc (rn z)).toArray⟩ := by
  induction zs with
  | nil => intro l; simp
  | cons z r ih =>
    intro l
    rw [List.foldl_cons, enc_bytes, append_bytes, ih, List.flatMap_cons, List.append_assoc]
theorem runesBytes_eq (zs : List Int) : runesBytes zs = ⟨(zs.flatMap fun z => enc (rn z)).toArray⟩ := by
  have := foldl_enc zs []
  rw [List.nil_append] at this
  exact this

theorem runes_enc (n : Nat) (h : isR n) (post : List UInt8) : runes (enc n ++ post) = n :: runes post := by
  have hl := (enc_len n).1
  have hne : enc n ++ post ≠ [] := by intro e; have := congrArg List.length e; rw [List.length_append, List.length_nil] at this; omega
  rw [runes_cons hne, dec_enc n h post]
  simp
theorem runes_one (n : Nat) (h : isR n) : runes (enc n) = [n] := by
  have := runes_enc n h []
  rw [List.append_nil, runes_nil] at this
  exact this
end Go.Proofs.Ytaflpeajapdkdaa
namespace Go.Proofs.Ytaflpeajapdkdaa
open Go.RowKit
set_option linter.unusedVariables false
set_option linter.unusedSimpArgs false

theorem isR_of {n : Nat} (h : Utf8.valid (n : Int) = true) : isR n := by
  unfold Utf8.valid at h
  unfold isR
  simp only [Bool.or_eq_true, Bool.and_eq_true, decide_eq_true_eq] at h
  omega

theorem u8_of {b : UInt8} {n : Nat} (h : n = b.toNat) : UInt8.ofNat n = b := by subst h; simp

theorem decL_cases (l : List UInt8) (h : l ≠ []) : (∃ n post, isR n ∧ l = enc n ++ post) ∨ decL l = (65533, 1) := by
  obtain ⟨b0, t, rfl⟩ := List.exists_cons_of_ne_nil h
  have l0 := b0.toNat_lt
  by_cases c0 : b0.toNat < 0x80
  · left
    refine ⟨b0.toNat, t, by unfold isR; omega, ?_⟩
    unfold enc
    rw [if_pos c0, u8_of rfl]; rfl
  by_cases c1 : b0.toNat / 32 = 6
  · have c2 : ¬ b0.toNat / 16 = 14 := by omega
    have c3 : ¬ b0.toNat / 8 = 30 := by omega
    cases t with
    | nil => right; simp [decL, c0, c1, c2, c3]
    | cons b1 t =>
      have l1 := b1.toNat_lt
      by_cases d1 : b1.toNat / 64 = 2
      · by_cases hc : (b0.toNat % 32) * 64 + b1.toNat % 64 ≥ 0x80
        · left
          refine ⟨(b0.toNat % 32) * 64 + b1.toNat % 64, t, by unfold isR; omega, ?_⟩
          unfold enc
          rw [if_neg (by omega), if_pos (by omega), u8_of (b := b0) (by omega), u8_of (b := b1) (by omega)]; rfl
        · right; simp [decL, c0, c1, c2, c3, d1, hc]
      · right; simp [decL, c0, c1, c2, c3, d1]
  by_cases c2 : b0.toNat / 16 = 14
  · have c3 : ¬ b0.toNat / 8 = 30 := by omega
    cases t with
    | nil => right; simp [decL, c0, c1, c2, c3]
    | cons b1 t =>
      have l1 := b1.toNat_lt
      cases t with
      | nil => right; simp [decL, c0, c1, c2, c3]
      | cons b2 t =>
        have l2 := b2.toNat_lt
        by_cases d1 : b1.toNat / 64 = 2
        · by_cases d2 : b2.toNat / 64 = 2
          · obtain ⟨c, hcc⟩ : ∃ c, c = (b0.toNat % 16) * 4096 + (b1.toNat % 64) * 64 + b2.toNat % 64 := ⟨_, rfl⟩
            by_cases hc : c ≥ 0x800
            · cases hv : Utf8.valid (c : Int) with
              | true =>
                left
                refine ⟨c, t, isR_of hv, ?_⟩
                unfold enc
                rw [if_neg (by omega), if_neg (by omega), if_pos (by omega), u8_of (b := b0) (by omega), u8_of (b := b1) (by omega), u8_of (b := b2) (by omega)]; rfl
              | false =>
                right
                simp only [decL, List.getD_cons_zero, List.getD_cons_succ, ← hcc, hv]
                simp [c0, c1, c2, c3, d1, d2]
            · right
              simp only [decL, List.getD_cons_zero, List.getD_cons_succ, ← hcc]
              simp [c0, c1, c2, c3, d1, d2, hc]
          · right; simp [decL, c0, c1, c2, c3, d1, d2]
        · right; simp [decL, c0, c1, c2, c3, d1]
  by_cases c3 : b0.toNat / 8 = 30
  · cases t with
    | nil => right; simp [decL, c0, c1, c2, c3]
    | cons b1 t =>
      have l1 := b1.toNat_lt
      cases t with
      | nil => right; simp [decL, c0, c1, c2, c3]
      | cons b2 t =>
        have l2 := b2.toNat_lt
        cases t with
        | nil => right; simp [decL, c0, c1, c2, c3]
        | cons b3 t =>
          have l3 := b3.toNat_lt
          by_cases d1 : b1.toNat / 64 = 2
          · by_cases d2 : b2.toNat / 64 = 2
            · by_cases d3 : b3.toNat / 64 = 2
              · obtain ⟨c, hcc⟩ : ∃ c, c = (b0.toNat % 8) * 262144 + (b1.toNat % 64) * 4096 + (b2.toNat % 64) * 64 + b3.toNat % 64 := ⟨_, rfl⟩
                by_cases hc : c ≥ 0x10000
                · cases hv : Utf8.valid (c : Int) with
                  | true =>
                    left
                    refine ⟨c, t, isR_of hv, ?_⟩
                    unfold enc
                    rw [if_neg (by omega), if_neg (by omega), if_neg (by omega), u8_of (b := b0) (by omega), u8_of (b := b1) (by omega), u8_of (b := b2) (by omega), u8_of (b := b3) (by omega)]; rfl
                  | false =>
                    right
                    simp only [decL, List.getD_cons_zero, List.getD_cons_succ, ← hcc, hv]
                    simp [c0, c1, c2, c3, d1, d2, d3]
                · right
                  simp only [decL, List.getD_cons_zero, List.getD_cons_succ, ← hcc]
                  simp [c0, c1, c2, c3, d1, d2, d3, hc]
              · right; simp [decL, c0, c1, c2, c3, d1, d2, d3]
            · right; simp [decL, c0, c1, c2, c3, d1, d2]
          · right; simp [decL, c0, c1, c2, c3, d1]
  · right; simp [decL, c0, c1, c2, c3]

theorem enc_err : enc 65533 = [239, 191, 189] := by decide

theorem decL_isR (l : List UInt8) (h : l ≠ []) : isR (decL l).1 := by
  rcases decL_cases l h with ⟨n, post, hn, rfl⟩ | e
  · rw [dec_enc n hn post]; exact hn
  · rw [e]; unfold isR; omega

/-- a byte that encodes nothing -/
def strayL (l : List UInt8) : Bool := (decL l).1 == 65533 && !(Lib.hasPrefix l [239, 191, 189])

theorem pre_err (post : List UInt8) : Lib.hasPrefix (enc 65533 ++ post) [239, 191, 189] = true := by rw [enc_err]; rfl
theorem pre_err_of {l : List UInt8} (h : Lib.hasPrefix l [239, 191, 189] = true) : ∃ post, l = enc 65533 ++ post := by
  rw [enc_err]
  have h' : ([239, 191, 189] : List UInt8).isPrefixOf l = true := h
  rw [List.isPrefixOf_iff_prefix] at h'
  obtain ⟨t, rfl⟩ := h'
  exact ⟨t, rfl⟩

theorem stray_enc (n : Nat) (hn : isR n) (post : List UInt8) : strayL (enc n ++ post) = false := by
  unfold strayL
  rw [dec_enc n hn post]
  by_cases h : n = 65533
  · subst h; rw [pre_err]; rfl
  · rw [show (n == 65533) = false from beq_eq_false_iff_ne.2 h]; rfl

theorem stray_or (l : List UInt8) (h : l ≠ []) : (∃ n post, isR n ∧ l = enc n ++ post ∧ strayL l = false) ∨ (decL l = (65533, 1) ∧ strayL l = true) := by
  rcases decL_cases l h with ⟨n, post, hn, rfl⟩ | e
  · exact Or.inl ⟨n, post, hn, rfl, stray_enc n hn post⟩
  · right
    refine ⟨e, ?_⟩
    unfold strayL
    rw [e]
    cases hp : Lib.hasPrefix l [239, 191, 189] with
    | false => rfl
    | true =>
      obtain ⟨post, rfl⟩ := pre_err_of hp
      rw [dec_enc 65533 (by unfold isR; omega) post, enc_err] at e
      cases e

theorem decL_take (l : List UInt8) (m : Nat) (h : l ≠ []) (hm : (decL l).2 ≤ m) : decL (l.take m) = decL l := by
  rcases decL_cases l h with ⟨n, post, hn, rfl⟩ | e
  · rw [dec_enc n hn post] at hm ⊢
    have hm' : (enc n).length ≤ m := hm
    rw [List.take_append, List.take_of_length_le hm', dec_enc n hn]
  · rw [e] at hm
    have hm' : 1 ≤ m := hm
    have hne : l.take m ≠ [] := by
      intro e2
      have := congrArg List.length e2
      have hl : 0 < l.length := List.length_pos_iff.2 h
      rw [List.length_take, List.length_nil] at this
      omega
    rcases decL_cases (l.take m) hne with ⟨n, post, hn, e2⟩ | e2
    · have e3 : l = enc n ++ (post ++ l.drop m) := by rw [← List.append_assoc, ← e2, List.take_append_drop]
      rw [e3, dec_enc n hn] at e
      have e4 : n = 65533 := congrArg Prod.fst e
      have e5 : (enc n).length = 1 := congrArg Prod.snd e
      subst e4
      rw [enc_err] at e5
      cases e5
    · rw [e2, e]

/-- where the piece of a number begins -/
def off (l : List UInt8) : Nat → Nat
  | 0 => 0
  | k + 1 => if l = [] then 0 else (decL l).2 + off (l.drop (decL l).2) k
theorem off_nil (k : Nat) : off [] k = 0 := by cases k <;> simp [off]
theorem off_succ {l : List UInt8} (h : l ≠ []) (k : Nat) : off l (k + 1) = (decL l).2 + off (l.drop (decL l).2) k := by
  simp only [off, if_neg h]
theorem off_le (k : Nat) : ∀ l : List UInt8, off l k ≤ l.length := by
  induction k with
  | zero => intro l; exact Nat.zero_le _
  | succ k ih =>
    intro l
    by_cases h : l = []
    · subst h; rw [off_nil]; exact Nat.le_refl _
    · rw [off_succ h]
      have := ih (l.drop (decL l).2)
      have h2 := decL_le l h
      rw [List.length_drop] at this
      omega
theorem off_add (i : Nat) : ∀ (l : List UInt8) (j : Nat), off l (i + j) = off l i + off (l.drop (off l i)) j := by
  induction i with
  | zero => intro l j; rw [Nat.zero_add]; show _ = 0 + off (l.drop 0) j; rw [List.drop_zero, Nat.zero_add]
  | succ i ih =>
    intro l j
    by_cases h : l = []
    · subst h; simp [off_nil]
    · rw [show i + 1 + j = (i + j) + 1 by omega, off_succ h, ih, off_succ h, List.drop_drop, Nat.add_assoc]
theorem off_step (l : List UInt8) (k : Nat) (h : l.drop (off l k) ≠ []) : off l (k + 1) = off l k + (decL (l.drop (off l k))).2 := by
  rw [off_add, off_succ h]; simp [off]
theorem off_mono (l : List UInt8) {i j : Nat} (h : i ≤ j) : off l i ≤ off l j := by
  obtain ⟨d, rfl⟩ := Nat.le.dest h
  rw [off_add]; omega
/-- behind all the pieces -/
theorem off_end (k : Nat) : ∀ l : List UInt8, (runes l).length ≤ k → off l k = l.length := by
  induction k with
  | zero =>
    intro l hk
    by_cases h : l = []
    · subst h; rfl
    · rw [runes_cons h, List.length_cons] at hk; omega
  | succ k ih =>
    intro l hk
    by_cases h : l = []
    · subst h; rfl
    · rw [runes_cons h, List.length_cons] at hk
      have h2 := decL_le l h
      rw [off_succ h, ih _ (by omega), List.length_drop]; omega
theorem off_lt (k : Nat) : ∀ l : List UInt8, k < (runes l).length → off l k < l.length := by
  induction k with
  | zero =>
    intro l hk
    by_cases h : l = []
    · subst h; rw [runes_nil] at hk; cases hk
    · exact List.length_pos_iff.2 h
  | succ k ih =>
    intro l hk
    by_cases h : l = []
    · subst h; rw [runes_nil] at hk; cases hk
    · rw [runes_cons h, List.length_cons] at hk
      have := ih (l.drop (decL l).2) (by omega)
      rw [List.length_drop] at this
      rw [off_succ h]; omega
/-- the pieces up to a number, and from it on -/
theorem runes_take (k : Nat) : ∀ l : List UInt8, runes (l.take (off l k)) = (runes l).take k := by
  induction k with
  | zero => intro l; simp [off, runes_nil]
  | succ k ih =>
    intro l
    by_cases h : l = []
    · subst h; simp [runes_nil]
    · have hp := decL_pos l
      have h2 := decL_le l h
      have hd := decL_take l (off l (k + 1)) h (by rw [off_succ h]; omega)
      have hne : l.take (off l (k + 1)) ≠ [] := by
        intro e2
        have := congrArg List.length e2
        rw [List.length_take, List.length_nil, off_succ h] at this
        omega
      rw [runes_cons hne, hd, runes_cons h, List.take_succ_cons]
      rw [off_succ h, List.drop_take, Nat.add_sub_cancel_left, ih]
theorem runes_drop (k : Nat) : ∀ l : List UInt8, runes (l.drop (off l k)) = (runes l).drop k := by
  induction k with
  | zero => intro l; simp [off]
  | succ k ih =>
    intro l
    by_cases h : l = []
    · subst h; simp [runes_nil]
    · rw [off_succ h, ← List.drop_drop, ih, runes_cons h, List.drop_succ_cons]
end Go.Proofs.Ytaflpeajapdkdaa
namespace Go.Proofs.Ytaflpeajapdkdaa
open Go.RowKit
set_option linter.unusedVariables false
set_option linter.unusedSimpArgs false

/-- the text of runes -/
def txt (zs : List Nat) : List UInt8 := zs.flatMap enc
def okB (l : List UInt8) : Bool := decide (txt (runes l) = l)
theorem ok_nil : okB [] = true := by decide
theorem ok_enc (n : Nat) (hn : isR n) (post : List UInt8) : okB (enc n ++ post) = okB post := by
  unfold okB
  rw [runes_enc n hn post]
  have e : txt (n :: runes post) = enc n ++ txt (runes post) := rfl
  rw [e]
  by_cases h : txt (runes post) = post
  · rw [decide_eq_true h, decide_eq_true (by rw [h])]
  · rw [decide_eq_false h, decide_eq_false (fun h2 => h (List.append_cancel_left h2))]
theorem ok_stray (l : List UInt8) (h : l ≠ []) (e : decL l = (65533, 1)) : okB l = false := by
  unfold okB
  refine decide_eq_false fun h2 => ?_
  rw [runes_cons h, e] at h2
  have e2 : l = enc 65533 ++ txt (runes (l.drop 1)) := h2.symm
  have hd := dec_enc 65533 (by unfold isR; omega) (txt (runes (l.drop 1)))
  rw [← e2, e, enc_err] at hd
  cases hd
theorem runes_txt (zs : List Nat) (h : ∀ z ∈ zs, isR z) : runes (txt zs) = zs := by
  induction zs with
  | nil => rfl
  | cons z r ih =>
    have e : txt (z :: r) = enc z ++ txt r := rfl
    rw [e, runes_enc z (h z (List.mem_cons_self ..)), ih fun y hy => h y (List.mem_cons_of_mem _ hy)]
theorem ok_txt (zs : List Nat) (h : ∀ z ∈ zs, isR z) : okB (txt zs) = true := by
  unfold okB; rw [runes_txt zs h]; simp
theorem runes_isR (l : List UInt8) : ∀ z ∈ runes l, isR z := by
  have : ∀ n, ∀ l : List UInt8, l.length ≤ n → ∀ z ∈ runes l, isR z := by
    intro n
    induction n with
    | zero =>
      intro l hl
      have e : l = [] := List.eq_nil_of_length_eq_zero (by omega)
      subst e; intro z hz; cases hz
    | succ n ih =>
      intro l hl z hz
      by_cases h : l = []
      · subst h; cases hz
      · have hp := decL_pos l
        have hlen : 0 < l.length := List.length_pos_iff.2 h
        rw [runes_cons h] at hz
        rcases List.mem_cons.1 hz with rfl | hz
        · exact decL_isR l h
        · exact ih _ (by rw [List.length_drop]; omega) z hz
  exact this l.length l (Nat.le_refl _)
theorem rn_nat {n : Nat} (h : isR n) : rn (n : Int) = n := by
  unfold rn
  rw [← valid_rn, valid_of h]; simp

set_option maxRecDepth 100000 in
set_option maxHeartbeats 800000 in
theorem w_stray (s : ByteArray) (p r : Nat) (w : World) (hp : p ≤ s.size) :
    Calls Try.prog 39 #[.string s, .int .i64 (p : Int), .int .i32 (r : Int)] w fun e w' => e = .returned (.bool (r == 65533 && !(Lib.hasPrefix (s.data.toList.drop p) [239, 191, 189]))) ∧ w' = w := by
  have hpi : (p : Int) ≤ (s.size : Int) := by omega
  have HP := Hid.mk (fun u => Try.strings_HasPrefix (s.extract p s.size) ⟨#[239, 191, 189]⟩ u)
  rw [extract_drop] at HP
  by_cases hr : r = 65533
  · subst hr
    generalize s.data.toList.drop p = l at *
    go_enter Try.func39, Try.ntmps39
    go_wp2_with fail
    refine (HP.out _).mono ?_
    rintro e w1 ⟨rfl, hw⟩
    obtain rfl := hw.symm
    go_wp2_with fail
    go_ret
    exact ⟨by first | rfl | simp, rfl⟩
  · have hr2 : (((r : Nat) : Int) == 65533) = false := by rw [beq_eq_false_iff_ne]; omega
    rw [show (r == 65533) = false from beq_eq_false_iff_ne.2 hr]
    exact w_stray_no s (p : Int) (r : Int) w hr2

theorem nxt2 (w : World) (s : ByteArray) (p : Nat) (ty : TypeId) (h : p < s.size) :
    (Instr.next (.pointer (some ⟨w.heap.size, 0, none⟩)) true ty).run Try.prog (w.iter s p) = .ok (.tuple #[.bool true, .int .i64 (p : Int), .int .i32 ((decL (s.data.toList.drop p)).1 : Int)]) (w.iter s (p + (decL (s.data.toList.drop p)).2)) := by
  have := run_next_any (P := Try.prog) w s p ty h
  rw [decode_eq s p (by omega)] at this
  exact this
theorem drop_ne {s : ByteArray} {p : Nat} (h : p < s.size) : s.data.toList.drop p ≠ [] := by
  intro e
  have := congrArg List.length e
  rw [List.length_drop, Array.length_toList, List.length_nil] at this
  have e2 : s.data.size = s.size := rfl
  omega
theorem drop_all {s : ByteArray} {p : Nat} (h : ¬ p < s.size) : s.data.toList.drop p = [] := List.drop_eq_nil_of_le (by simp; omega)
theorem step_le {s : ByteArray} {p : Nat} (h : p < s.size) : p + (decL (s.data.toList.drop p)).2 ≤ s.size := by
  have := decL_le _ (drop_ne h)
  rw [List.length_drop, Array.length_toList] at this
  have e2 : s.data.size = s.size := rfl
  omega

set_option maxRecDepth 100000 in
set_option maxHeartbeats 800000 in
theorem w_Valid (s : ByteArray) (w : World) (hs : s.size ≤ 9223372036854775806) :
    Calls Try.prog 29 #[.string s] w fun e w' => e = .returned (.bool (okB s.data.toList)) ∧ Below w.heap.size w w' := by
  go_enter Try.func29, Try.ntmps29
  go_wp2_with fail
  go_loopw [3, 4] (fun _ _ wr => ∃ (pos : Nat), wr = w.iter s pos ∧ pos ≤ s.size ∧ Hid (okB s.data.toList = okB (s.data.toList.drop pos))) (fun _ _ wr => s.size - wr.iterPos w.heap.size)
  case atStart => exact ⟨0, rfl, Nat.zero_le _, by show _ = _; rw [List.drop_zero]⟩
  case round =>
    obtain ⟨pos, rfl, hpos, HR⟩ := hrel
    by_cases hp : pos < s.size
    · have hnx : ∀ ty, _ := fun ty => nxt2 w s pos ty hp
      have H1 := Hid.mk (decL_pos (s.data.toList.drop pos))
      have H2 := Hid.mk (step_le hp)
      have HS := Hid.mk (fun u => w_stray s pos (decL (s.data.toList.drop pos)).1 u hpos)
      rcases stray_or _ (drop_ne hp) with ⟨n, post, hn, he, hst⟩ | ⟨he, hst⟩
      · have H3 : Hid (okB (s.data.toList.drop pos) = okB (s.data.toList.drop (pos + (decL (s.data.toList.drop pos)).2))) := by
          show _ = _
          have e2 : s.data.toList.drop (pos + (decL (s.data.toList.drop pos)).2) = post := by
            rw [← List.drop_drop, he, dec_enc n hn post, List.drop_append_of_le_length (Nat.le_refl _), List.drop_length]; rfl
          rw [e2, he, ok_enc n hn]
        have HT := Hid.mk hst
        clear he hst
        go_wp2_with fail
        refine (HS.out _).mono ?_
        rintro e w1 ⟨rfl, hw⟩
        obtain rfl := hw.symm
        have ht := HT.out
        unfold strayL at ht
        rw [ht]
        clear ht
        go_wp2_with fail
        go_roundw
        case rel => exact ⟨_, rfl, H2.out, by show _ = _; rw [HR.out, H3.out]⟩
        case measure =>
          have := H1.out
          have := H2.out
          simp
          omega
      · have HF : Hid (okB s.data.toList = false) := by show _ = _; rw [HR.out, ok_stray _ (drop_ne hp) he]
        have HT := Hid.mk hst
        clear he hst
        go_wp2_with fail
        refine (HS.out _).mono ?_
        rintro e w1 ⟨rfl, hw⟩
        obtain rfl := hw.symm
        have ht := HT.out
        unfold strayL at ht
        rw [ht]
        clear ht
        go_wp2_with fail
        go_ret
        exact ⟨by rw [HF.out]; rfl, iter_below w s _⟩
    · have hnx := fun ty => run_next_end (P := Try.prog) w s pos ty hp
      have HF : Hid (okB s.data.toList = true) := by show _ = _; rw [HR.out, drop_all hp]; exact ok_nil
      go_wp2_with fail
      go_ret
      exact ⟨by rw [HF.out]; rfl, iter_below w s _⟩
end Go.Proofs.Ytaflpeajapdkdaa
namespace Go.Proofs.Ytaflpeajapdkdaa
open Go.RowKit
set_option linter.unusedVariables false
set_option linter.unusedSimpArgs false

/-- a value as a tree -/
inductive VT where
  | mk (kind : Int) (num text : ByteArray) (items : List VT) (keys : List ByteArray)
def VT.kind : VT → Int | .mk k _ _ _ _ => k
def VT.num : VT → ByteArray | .mk _ n _ _ _ => n
def VT.text : VT → ByteArray | .mk _ _ t _ _ => t
def VT.items : VT → List VT | .mk _ _ _ i _ => i
def VT.keys : VT → List ByteArray | .mk _ _ _ _ k => k

/-- a row of texts, as it lies -/
structure KIn (W : World) (ko : Option Addr) (keys : List ByteArray) : Prop where
  row : 0 < keys.length → ∃ b off, ko = some ⟨b, off, none⟩ ∧ b < W.heap.size ∧ ∀ i, i < keys.length → W.cell? ⟨b, off + i, none⟩ = some (.string (keys.getD i .empty))
theorem KIn.keep {W W' : World} {ko : Option Addr} {keys : List ByteArray} (h : KIn W ko keys) (hb : Below W.heap.size W W') : KIn W' ko keys := by
  refine ⟨fun h0 => ?_⟩
  obtain ⟨b, off, e, hl, hc⟩ := h.row h0
  exact ⟨b, off, e, Nat.lt_of_lt_of_le hl hb.size, fun i hi => (hb.cell (p := ⟨b, off + i, none⟩) hl).trans (hc i hi)⟩

/-- the cells of an item -/
def ICell (W : World) (b off i : Nat) (v : Fin 5 → Value) : Prop := ∀ j : Fin 5, W.cell? ⟨b, off + i * 5 + j.val, none⟩ = some (v j)

/-- the tree stands in the world, at most so high -/
def InH (W : World) : Nat → VT → Value → Prop
  | 0, _, _ => False
  | h + 1, T, v => ∃ (io : Option Addr) (icap : Nat) (ko : Option Addr) (kcap : Nat),
      v = .agg #[.int .i64 T.kind, .string T.num, .string T.text, .slice io T.items.length icap, .slice ko T.keys.length kcap] ∧
      T.num.size ≤ 140737488355328 ∧ T.text.size ≤ 140737488355328 ∧ T.items.length ≤ 140737488355328 ∧ T.keys.length ≤ 140737488355328 ∧ T.items.length ≤ icap ∧ T.keys.length ≤ kcap ∧
      (∀ k ∈ T.keys, k.size ≤ 140737488355328) ∧ KIn W ko T.keys ∧
      (0 < T.items.length → ∃ b off, io = some ⟨b, off, none⟩ ∧ b < W.heap.size ∧ ∀ i, (hi : i < T.items.length) → ∃ v0 v1 v2 v3 v4 : Value,
        (W.cell? ⟨b, off + i * 5, none⟩ = some v0 ∧ W.cell? ⟨b, off + i * 5 + 1, none⟩ = some v1 ∧ W.cell? ⟨b, off + i * 5 + 2, none⟩ = some v2 ∧ W.cell? ⟨b, off + i * 5 + 3, none⟩ = some v3 ∧ W.cell? ⟨b, off + i * 5 + 4, none⟩ = some v4) ∧ InH W h T.items[i] (.agg #[v0, v1, v2, v3, v4]))
theorem InH.keep {W W' : World} (hb : Below W.heap.size W W') : ∀ {h : Nat} {T : VT} {v : Value}, InH W h T v → InH W' h T v
  | 0, _, _, h => h
  | h + 1, T, v, hI => by
    obtain ⟨io, icap, ko, kcap, e, a1, a2, a3, a4, a5, a6, a7, hk, hi⟩ := hI
    refine ⟨io, icap, ko, kcap, e, a1, a2, a3, a4, a5, a6, a7, hk.keep hb, fun h0 => ?_⟩
    obtain ⟨b, off, e2, hl, hc⟩ := hi h0
    refine ⟨b, off, e2, Nat.lt_of_lt_of_le hl hb.size, fun i hil => ?_⟩
    obtain ⟨v0, v1, v2, v3, v4, ⟨c0, c1, c2, c3, c4⟩, ht⟩ := hc i hil
    exact ⟨v0, v1, v2, v3, v4, ⟨(hb.cell (p := ⟨_, _, _⟩) hl).trans c0, (hb.cell (p := ⟨_, _, _⟩) hl).trans c1, (hb.cell (p := ⟨_, _, _⟩) hl).trans c2, (hb.cell (p := ⟨_, _, _⟩) hl).trans c3, (hb.cell (p := ⟨_, _, _⟩) hl).trans c4⟩, InH.keep hb ht⟩

/-- the row of a value's items, as it lies -/
structure IIn (W : World) (h : Nat) (io : Option Addr) (ts : List VT) : Prop where
  row : 0 < ts.length → ∃ b off, io = some ⟨b, off, none⟩ ∧ b < W.heap.size ∧ ∀ i, (hi : i < ts.length) → ∃ v0 v1 v2 v3 v4 : Value,
        (W.cell? ⟨b, off + i * 5, none⟩ = some v0 ∧ W.cell? ⟨b, off + i * 5 + 1, none⟩ = some v1 ∧ W.cell? ⟨b, off + i * 5 + 2, none⟩ = some v2 ∧ W.cell? ⟨b, off + i * 5 + 3, none⟩ = some v3 ∧ W.cell? ⟨b, off + i * 5 + 4, none⟩ = some v4) ∧ InH W h ts[i] (.agg #[v0, v1, v2, v3, v4])
theorem IIn.keep {W W' : World} {h : Nat} {io : Option Addr} {ts : List VT} (hI : IIn W h io ts) (hb : Below W.heap.size W W') : IIn W' h io ts := by
  refine ⟨fun h0 => ?_⟩
  obtain ⟨b, off, e2, hl, hc⟩ := hI.row h0
  refine ⟨b, off, e2, Nat.lt_of_lt_of_le hl hb.size, fun i hil => ?_⟩
  obtain ⟨v0, v1, v2, v3, v4, ⟨c0, c1, c2, c3, c4⟩, ht⟩ := hc i hil
  exact ⟨v0, v1, v2, v3, v4, ⟨(hb.cell (p := ⟨_, _, _⟩) hl).trans c0, (hb.cell (p := ⟨_, _, _⟩) hl).trans c1, (hb.cell (p := ⟨_, _, _⟩) hl).trans c2, (hb.cell (p := ⟨_, _, _⟩) hl).trans c3, (hb.cell (p := ⟨_, _, _⟩) hl).trans c4⟩, InH.keep hb ht⟩

/-- a value's box -/
structure VBx (w u : World) (a b c d e : Value) : Prop where
  below : Below w.heap.size w u
  c0 : u.cell? ⟨w.heap.size, 0, none⟩ = some a
  c1 : u.cell? ⟨w.heap.size, 1, none⟩ = some b
  c2 : u.cell? ⟨w.heap.size, 2, none⟩ = some c
  c3 : u.cell? ⟨w.heap.size, 3, none⟩ = some d
  c4 : u.cell? ⟨w.heap.size, 4, none⟩ = some e
  lt : w.heap.size < u.heap.size
theorem VBx.keep {w u u' : World} {a b c d e : Value} (h : VBx w u a b c d e) (hb : Below u.heap.size u u') : VBx w u' a b c d e :=
  ⟨h.below.trans (hb.mono h.below.size), (hb.cell (p := ⟨_, _, _⟩) h.lt).trans h.c0, (hb.cell (p := ⟨_, _, _⟩) h.lt).trans h.c1, (hb.cell (p := ⟨_, _, _⟩) h.lt).trans h.c2, (hb.cell (p := ⟨_, _, _⟩) h.lt).trans h.c3, (hb.cell (p := ⟨_, _, _⟩) h.lt).trans h.c4, Nat.lt_of_lt_of_le h.lt hb.size⟩
theorem VBx.drew {w u : World} {a b c d e : Value} (h : VBx w u a b c d e) : VBx w u.drew a b c d e := ⟨h.below.drew, h.c0, h.c1, h.c2, h.c3, h.c4, h.lt⟩
theorem vbx_new (w : World) (a b c d e : Value) : VBx w (w.alloc (.cells #[a, b, c, d, e] 25)) a b c d e :=
  ⟨(Below.refl _ _).alloc (Nat.le_refl _) _, by simp [go_sem], by simp [go_sem], by simp [go_sem], by simp [go_sem], by simp [go_sem], by simp⟩

end Go.Proofs.Ytaflpeajapdkdaa
