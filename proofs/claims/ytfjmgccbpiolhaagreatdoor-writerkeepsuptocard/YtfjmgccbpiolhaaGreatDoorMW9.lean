import Derived.Test.YtfjmgccbpiolhaaGreatDoorMW8
import Derived.Laws.IdiomStrings
namespace Go.Proofs.YtfjmgccbpiolhaaGreatDoor
open Go.RowKit
set_option linter.unusedVariables false
set_option linter.unusedSimpArgs false

theorem decL_pos (l : List UInt8) : 1 ≤ (decL l).2 := by
  simp only [decL]
  repeat' split
  all_goals simp

theorem decL_le (l : List UInt8) (h : l ≠ []) : (decL l).2 ≤ l.length := by
  have hl : 0 < l.length := List.length_pos_iff.2 h
  simp only [decL]
  repeat' split
  all_goals simp_all
  all_goals omega

def pcsF : Nat → List UInt8 → List (Nat × Nat)
  | 0, _ => []
  | f + 1, l => if l = [] then [] else decL l :: pcsF f (l.drop (decL l).2)
def pcs (l : List UInt8) : List (Nat × Nat) := pcsF l.length l

theorem pcsF_eq : ∀ (f : Nat) (l : List UInt8), l.length ≤ f → pcsF f l = pcs l := by
  intro f
  induction f using Nat.strongRecOn with
  | _ f ih =>
    intro l hl
    cases f with
    | zero =>
      have e : l = [] := List.eq_nil_of_length_eq_zero (by omega)
      subst e; rfl
    | succ f =>
      by_cases hn : l = []
      · subst hn; rfl
      · have hp := decL_pos l
        have hlen : 0 < l.length := List.length_pos_iff.2 hn
        obtain ⟨m, hm⟩ : ∃ m, l.length = m + 1 := ⟨l.length - 1, by omega⟩
        unfold pcs
        rw [hm]
        simp only [pcsF, if_neg hn]
        rw [ih f (by omega) _ (by simp; omega)]
        rw [ih m (by omega) _ (by simp; omega)]
theorem pcs_cons {l : List UInt8} (h : l ≠ []) : pcs l = decL l :: pcs (l.drop (decL l).2) := by
  have hlen : 0 < l.length := List.length_pos_iff.2 h
  obtain ⟨m, hm⟩ : ∃ m, l.length = m + 1 := ⟨l.length - 1, by omega⟩
  have hp := decL_pos l
  unfold pcs
  rw [hm]
  simp only [pcsF, if_neg h]
  rw [pcsF_eq m _ (by simp; omega)]
  rfl

def runes (l : List UInt8) : List Nat := (pcs l).map (·.1)
theorem runes_nil : runes [] = [] := rfl
theorem runes_cons {l : List UInt8} (h : l ≠ []) : runes l = (decL l).1 :: runes (l.drop (decL l).2) := by unfold runes; rw [pcs_cons h]; rfl
theorem runes_len_le (l : List UInt8) : (runes l).length ≤ l.length := by
  have : ∀ n, ∀ l : List UInt8, l.length ≤ n → (runes l).length ≤ l.length := by
    intro n
    induction n with
    | zero =>
      intro l hl
      have e : l = [] := List.eq_nil_of_length_eq_zero (by omega)
      subst e; exact Nat.le_refl _
    | succ n ih =>
      intro l hl
      by_cases h : l = []
      · subst h; exact Nat.le_refl _
      · have hp := decL_pos l
        have hlen : 0 < l.length := List.length_pos_iff.2 h
        rw [runes_cons h, List.length_cons]
        have := ih (l.drop (decL l).2) (by simp; omega)
        simp at this
        omega
  exact this l.length l (Nat.le_refl _)

def RS (w : World) (v : Value) (zs : List Nat) : Prop := ∃ g cap, v = .slice (some ⟨g, 0, none⟩) zs.length cap ∧ zs.length ≤ cap ∧ g < w.heap.size ∧ ∀ i, i < zs.length → w.cell? ⟨g, i, none⟩ = some (.int .i32 ((zs.getD i 0 : Nat) : Int))
theorem RS.keep {w w' : World} {v : Value} {zs : List Nat} (h : RS w v zs) (hb : Below w.heap.size w w') : RS w' v zs := by
  obtain ⟨g, cap, hv, hc, hg, hr⟩ := h
  exact ⟨g, cap, hv, hc, Nat.lt_of_lt_of_le hg hb.size, fun i hi => (hb.cell (p := ⟨g, i, none⟩) hg).trans (hr i hi)⟩

theorem runes_enc (n : Nat) (h : isR n) (post : List UInt8) : runes (enc n ++ post) = n :: runes post := by
  have hl := (enc_len n).1
  have hne : enc n ++ post ≠ [] := by intro e; have := congrArg List.length e; rw [List.length_append, List.length_nil] at this; omega
  rw [runes_cons hne, dec_enc n h post]
  simp
end Go.Proofs.YtfjmgccbpiolhaaGreatDoor
namespace Go.Proofs.YtfjmgccbpiolhaaGreatDoor
open Go.RowKit
set_option linter.unusedVariables false
set_option linter.unusedSimpArgs false

theorem isR_of {n : Nat} (h : Utf8.valid (n : Int) = true) : isR n := by
  unfold Utf8.valid at h
  unfold isR
  simp only [Bool.or_eq_true, Bool.and_eq_true, decide_eq_true_eq] at h
  omega

theorem u8_of {b : UInt8} {n : Nat} (h : n = b.toNat) : UInt8.ofNat n = b := by subst h; simp

theorem decL_cases (l : List UInt8) (h : l ≠ []) : (∃ n post, isR n ∧ l = enc n ++ post) ∨ decL l = (65533, 1) := by
  obtain ⟨b0, t, rfl⟩ := List.exists_cons_of_ne_nil h
  have l0 := b0.toNat_lt
  by_cases c0 : b0.toNat < 0x80
  · left
    refine ⟨b0.toNat, t, by unfold isR; omega, ?_⟩
    unfold enc
    rw [if_pos c0, u8_of rfl]; rfl
  by_cases c1 : b0.toNat / 32 = 6
  · have c2 : ¬ b0.toNat / 16 = 14 := by omega
    have c3 : ¬ b0.toNat / 8 = 30 := by omega
    cases t with
    | nil => right; simp [decL, c0, c1, c2, c3]
    | cons b1 t =>
      have l1 := b1.toNat_lt
      by_cases d1 : b1.toNat / 64 = 2
      · by_cases hc : (b0.toNat % 32) * 64 + b1.toNat % 64 ≥ 0x80
        · left
          refine ⟨(b0.toNat % 32) * 64 + b1.toNat % 64, t, by unfold isR; omega, ?_⟩
          unfold enc
          rw [if_neg (by omega), if_pos (by omega), u8_of (b := b0) (by omega), u8_of (b := b1) (by omega)]; rfl
        · right; simp [decL, c0, c1, c2, c3, d1, hc]
      · right; simp [decL, c0, c1, c2, c3, d1]
  by_cases c2 : b0.toNat / 16 = 14
  · have c3 : ¬ b0.toNat / 8 = 30 := by omega
    cases t with
    | nil => right; simp [decL, c0, c1, c2, c3]
    | cons b1 t =>
      have l1 := b1.toNat_lt
      cases t with
      | nil => right; simp [decL, c0, c1, c2, c3]
      | cons b2 t =>
        have l2 := b2.toNat_lt
        by_cases d1 : b1.toNat / 64 = 2
        · by_cases d2 : b2.toNat / 64 = 2
          · obtain ⟨c, hcc⟩ : ∃ c, c = (b0.toNat % 16) * 4096 + (b1.toNat % 64) * 64 + b2.toNat % 64 := ⟨_, rfl⟩
            by_cases hc : c ≥ 0x800
            · cases hv : Utf8.valid (c : Int) with
              | true =>
                left
                refine ⟨c, t, isR_of hv, ?_⟩
                unfold enc
                rw [if_neg (by omega), if_neg (by omega), if_pos (by omega), u8_of (b := b0) (by omega), u8_of (b := b1) (by omega), u8_of (b := b2) (by omega)]; rfl
              | false =>
                right
                simp only [decL, List.getD_cons_zero, List.getD_cons_succ, ← hcc, hv]
                simp [c0, c1, c2, c3, d1, d2]
            · right
              simp only [decL, List.getD_cons_zero, List.getD_cons_succ, ← hcc]
              simp [c0, c1, c2, c3, d1, d2, hc]
          · right; simp [decL, c0, c1, c2, c3, d1, d2]
        · right; simp [decL, c0, c1, c2, c3, d1]
  by_cases c3 : b0.toNat / 8 = 30
  · cases t with
    | nil => right; simp [decL, c0, c1, c2, c3]
    | cons b1 t =>
      have l1 := b1.toNat_lt
      cases t with
      | nil => right; simp [decL, c0, c1, c2, c3]
      | cons b2 t =>
        have l2 := b2.toNat_lt
        cases t with
        | nil => right; simp [decL, c0, c1, c2, c3]
        | cons b3 t =>
          have l3 := b3.toNat_lt
          by_cases d1 : b1.toNat / 64 = 2
          · by_cases d2 : b2.toNat / 64 = 2
            · by_cases d3 : b3.toNat / 64 = 2
              · obtain ⟨c, hcc⟩ : ∃ c, c = (b0.toNat % 8) * 262144 + (b1.toNat % 64) * 4096 + (b2.toNat % 64) * 64 + b3.toNat % 64 := ⟨_, rfl⟩
                by_cases hc : c ≥ 0x10000
                · cases hv : Utf8.valid (c : Int) with
                  | true =>
                    left
                    refine ⟨c, t, isR_of hv, ?_⟩
                    unfold enc
                    rw [if_neg (by omega), if_neg (by omega), if_neg (by omega), u8_of (b := b0) (by omega), u8_of (b := b1) (by omega), u8_of (b := b2) (by omega), u8_of (b := b3) (by omega)]; rfl
                  | false =>
                    right
                    simp only [decL, List.getD_cons_zero, List.getD_cons_succ, ← hcc, hv]
                    simp [c0, c1, c2, c3, d1, d2, d3]
                · right
                  simp only [decL, List.getD_cons_zero, List.getD_cons_succ, ← hcc]
                  simp [c0, c1, c2, c3, d1, d2, d3, hc]
              · right; simp [decL, c0, c1, c2, c3, d1, d2, d3]
            · right; simp [decL, c0, c1, c2, c3, d1, d2]
          · right; simp [decL, c0, c1, c2, c3, d1]
  · right; simp [decL, c0, c1, c2, c3]

theorem enc_err : enc 65533 = [239, 191, 189] := by decide

theorem decL_isR (l : List UInt8) (h : l ≠ []) : isR (decL l).1 := by
  rcases decL_cases l h with ⟨n, post, hn, rfl⟩ | e
  · rw [dec_enc n hn post]; exact hn
  · rw [e]; unfold isR; omega

def strayL (l : List UInt8) : Bool := (decL l).1 == 65533 && !(Lib.hasPrefix l [239, 191, 189])

theorem pre_err (post : List UInt8) : Lib.hasPrefix (enc 65533 ++ post) [239, 191, 189] = true := by rw [enc_err]; rfl
theorem pre_err_of {l : List UInt8} (h : Lib.hasPrefix l [239, 191, 189] = true) : ∃ post, l = enc 65533 ++ post := by
  rw [enc_err]
  have h' : ([239, 191, 189] : List UInt8).isPrefixOf l = true := h
  rw [List.isPrefixOf_iff_prefix] at h'
  obtain ⟨t, rfl⟩ := h'
  exact ⟨t, rfl⟩

theorem stray_enc (n : Nat) (hn : isR n) (post : List UInt8) : strayL (enc n ++ post) = false := by
  unfold strayL
  rw [dec_enc n hn post]
  by_cases h : n = 65533
  · subst h; rw [pre_err]; rfl
  · rw [show (n == 65533) = false from beq_eq_false_iff_ne.2 h]; rfl

theorem stray_or (l : List UInt8) (h : l ≠ []) : (∃ n post, isR n ∧ l = enc n ++ post ∧ strayL l = false) ∨ (decL l = (65533, 1) ∧ strayL l = true) := by
  rcases decL_cases l h with ⟨n, post, hn, rfl⟩ | e
  · exact Or.inl ⟨n, post, hn, rfl, stray_enc n hn post⟩
  · right
    refine ⟨e, ?_⟩
    unfold strayL
    rw [e]
    cases hp : Lib.hasPrefix l [239, 191, 189] with
    | false => rfl
    | true =>
      obtain ⟨post, rfl⟩ := pre_err_of hp
      rw [dec_enc 65533 (by unfold isR; omega) post, enc_err] at e
      cases e

def off (l : List UInt8) : Nat → Nat
  | 0 => 0
  | k + 1 => if l = [] then 0 else (decL l).2 + off (l.drop (decL l).2) k
end Go.Proofs.YtfjmgccbpiolhaaGreatDoor
namespace Go.Proofs.YtfjmgccbpiolhaaGreatDoor
open Go.RowKit
set_option linter.unusedVariables false
set_option linter.unusedSimpArgs false

def txt (zs : List Nat) : List UInt8 := zs.flatMap enc
def okB (l : List UInt8) : Bool := decide (txt (runes l) = l)
theorem ok_nil : okB [] = true := by decide
theorem ok_enc (n : Nat) (hn : isR n) (post : List UInt8) : okB (enc n ++ post) = okB post := by
  unfold okB
  rw [runes_enc n hn post]
  have e : txt (n :: runes post) = enc n ++ txt (runes post) := rfl
  rw [e]
  by_cases h : txt (runes post) = post
  · rw [decide_eq_true h, decide_eq_true (by rw [h])]
  · rw [decide_eq_false h, decide_eq_false (fun h2 => h (List.append_cancel_left h2))]
theorem ok_stray (l : List UInt8) (h : l ≠ []) (e : decL l = (65533, 1)) : okB l = false := by
  unfold okB
  refine decide_eq_false fun h2 => ?_
  rw [runes_cons h, e] at h2
  have e2 : l = enc 65533 ++ txt (runes (l.drop 1)) := h2.symm
  have hd := dec_enc 65533 (by unfold isR; omega) (txt (runes (l.drop 1)))
  rw [← e2, e, enc_err] at hd
  cases hd
theorem runes_isR (l : List UInt8) : ∀ z ∈ runes l, isR z := by
  have : ∀ n, ∀ l : List UInt8, l.length ≤ n → ∀ z ∈ runes l, isR z := by
    intro n
    induction n with
    | zero =>
      intro l hl
      have e : l = [] := List.eq_nil_of_length_eq_zero (by omega)
      subst e; intro z hz; cases hz
    | succ n ih =>
      intro l hl z hz
      by_cases h : l = []
      · subst h; cases hz
      · have hp := decL_pos l
        have hlen : 0 < l.length := List.length_pos_iff.2 h
        rw [runes_cons h] at hz
        rcases List.mem_cons.1 hz with rfl | hz
        · exact decL_isR l h
        · exact ih _ (by rw [List.length_drop]; omega) z hz
  exact this l.length l (Nat.le_refl _)
set_option maxRecDepth 100000 in
set_option maxHeartbeats 800000 in
theorem w_stray (s : ByteArray) (p r : Nat) (w : World) (hp : p ≤ s.size) :
    Calls Tryz.prog 106 #[.string s, .int .i64 (p : Int), .int .i32 (r : Int)] w fun e w' => e = .returned (.bool (r == 65533 && !(Lib.hasPrefix (s.data.toList.drop p) [239, 191, 189]))) ∧ w' = w := by
  have hpi : (p : Int) ≤ (s.size : Int) := by omega
  have HP := Hid.mk (fun u => Tryz.strings_HasPrefix (s.extract p s.size) ⟨#[239, 191, 189]⟩ u)
  rw [extract_drop] at HP
  by_cases hr : r = 65533
  · subst hr
    generalize s.data.toList.drop p = l at *
    go_enter Tryz.func106, Tryz.ntmps106
    go_wp2_with fail
    refine (HP.out _).mono ?_
    rintro e w1 ⟨rfl, hw⟩
    obtain rfl := hw.symm
    go_wp2_with fail
    go_ret
    exact ⟨by first | rfl | simp, rfl⟩
  · have hr2 : (((r : Nat) : Int) == 65533) = false := by rw [beq_eq_false_iff_ne]; omega
    rw [show (r == 65533) = false from beq_eq_false_iff_ne.2 hr]
    exact w_stray_no s (p : Int) (r : Int) w hr2

theorem nxt2 (w : World) (s : ByteArray) (p : Nat) (ty : TypeId) (h : p < s.size) :
    (Instr.next (.pointer (some ⟨w.heap.size, 0, none⟩)) true ty).run Tryz.prog (w.iter s p) = .ok (.tuple #[.bool true, .int .i64 (p : Int), .int .i32 ((decL (s.data.toList.drop p)).1 : Int)]) (w.iter s (p + (decL (s.data.toList.drop p)).2)) := by
  have := run_next_any (P := Tryz.prog) w s p ty h
  rw [decode_eq s p (by omega)] at this
  exact this
theorem drop_ne {s : ByteArray} {p : Nat} (h : p < s.size) : s.data.toList.drop p ≠ [] := by
  intro e
  have := congrArg List.length e
  rw [List.length_drop, Array.length_toList, List.length_nil] at this
  have e2 : s.data.size = s.size := rfl
  omega
theorem drop_all {s : ByteArray} {p : Nat} (h : ¬ p < s.size) : s.data.toList.drop p = [] := List.drop_eq_nil_of_le (by simp; omega)
theorem step_le {s : ByteArray} {p : Nat} (h : p < s.size) : p + (decL (s.data.toList.drop p)).2 ≤ s.size := by
  have := decL_le _ (drop_ne h)
  rw [List.length_drop, Array.length_toList] at this
  have e2 : s.data.size = s.size := rfl
  omega

set_option maxRecDepth 100000 in
set_option maxHeartbeats 800000 in
theorem w_Valid (s : ByteArray) (w : World) (hs : s.size ≤ 9223372036854775806) :
    Calls Tryz.prog 59 #[.string s] w fun e w' => e = .returned (.bool (okB s.data.toList)) ∧ Below w.heap.size w w' := by
  go_enter Tryz.func59, Tryz.ntmps59
  go_wp2_with fail
  go_loopw [3, 4] (fun _ _ wr => ∃ (pos : Nat), wr = w.iter s pos ∧ pos ≤ s.size ∧ Hid (okB s.data.toList = okB (s.data.toList.drop pos))) (fun _ _ wr => s.size - wr.iterPos w.heap.size)
  case atStart => exact ⟨0, rfl, Nat.zero_le _, by show _ = _; rw [List.drop_zero]⟩
  case round =>
    obtain ⟨pos, rfl, hpos, HR⟩ := hrel
    by_cases hp : pos < s.size
    · have hnx : ∀ ty, _ := fun ty => nxt2 w s pos ty hp
      have H1 := Hid.mk (decL_pos (s.data.toList.drop pos))
      have H2 := Hid.mk (step_le hp)
      have HS := Hid.mk (fun u => w_stray s pos (decL (s.data.toList.drop pos)).1 u hpos)
      rcases stray_or _ (drop_ne hp) with ⟨n, post, hn, he, hst⟩ | ⟨he, hst⟩
      · have H3 : Hid (okB (s.data.toList.drop pos) = okB (s.data.toList.drop (pos + (decL (s.data.toList.drop pos)).2))) := by
          show _ = _
          have e2 : s.data.toList.drop (pos + (decL (s.data.toList.drop pos)).2) = post := by
            rw [← List.drop_drop, he, dec_enc n hn post, List.drop_append_of_le_length (Nat.le_refl _), List.drop_length]; rfl
          rw [e2, he, ok_enc n hn]
        have HT := Hid.mk hst
        clear he hst
        go_wp2_with fail
        refine (HS.out _).mono ?_
        rintro e w1 ⟨rfl, hw⟩
        obtain rfl := hw.symm
        have ht := HT.out
        unfold strayL at ht
        rw [ht]
        clear ht
        go_wp2_with fail
        go_roundw
        case rel => exact ⟨_, rfl, H2.out, by show _ = _; rw [HR.out, H3.out]⟩
        case measure =>
          have := H1.out
          have := H2.out
          simp
          omega
      · have HF : Hid (okB s.data.toList = false) := by show _ = _; rw [HR.out, ok_stray _ (drop_ne hp) he]
        have HT := Hid.mk hst
        clear he hst
        go_wp2_with fail
        refine (HS.out _).mono ?_
        rintro e w1 ⟨rfl, hw⟩
        obtain rfl := hw.symm
        have ht := HT.out
        unfold strayL at ht
        rw [ht]
        clear ht
        go_wp2_with fail
        go_ret
        exact ⟨by rw [HF.out]; rfl, iter_below w s _⟩
    · have hnx := fun ty => run_next_end (P := Tryz.prog) w s pos ty hp
      have HF : Hid (okB s.data.toList = true) := by show _ = _; rw [HR.out, drop_all hp]; exact ok_nil
      go_wp2_with fail
      go_ret
      exact ⟨by rw [HF.out]; rfl, iter_below w s _⟩
end Go.Proofs.YtfjmgccbpiolhaaGreatDoor
namespace Go.Proofs.YtfjmgccbpiolhaaGreatDoor
open Go.RowKit
set_option linter.unusedVariables false
set_option linter.unusedSimpArgs false

inductive VT where
  | mk (kind : Int) (num text : ByteArray) (items : List VT) (keys : List ByteArray)
def VT.kind : VT → Int | .mk k _ _ _ _ => k
def VT.num : VT → ByteArray | .mk _ n _ _ _ => n
def VT.text : VT → ByteArray | .mk _ _ t _ _ => t
def VT.items : VT → List VT | .mk _ _ _ i _ => i
def VT.keys : VT → List ByteArray | .mk _ _ _ _ k => k

structure KIn (W : World) (ko : Option Addr) (keys : List ByteArray) : Prop where
  row : 0 < keys.length → ∃ b off, ko = some ⟨b, off, none⟩ ∧ b < W.heap.size ∧ ∀ i, i < keys.length → W.cell? ⟨b, off + i, none⟩ = some (.string (keys.getD i .empty))
theorem KIn.keep {W W' : World} {ko : Option Addr} {keys : List ByteArray} (h : KIn W ko keys) (hb : Below W.heap.size W W') : KIn W' ko keys := by
  refine ⟨fun h0 => ?_⟩
  obtain ⟨b, off, e, hl, hc⟩ := h.row h0
  exact ⟨b, off, e, Nat.lt_of_lt_of_le hl hb.size, fun i hi => (hb.cell (p := ⟨b, off + i, none⟩) hl).trans (hc i hi)⟩

def InH (W : World) : Nat → VT → Value → Prop
  | 0, _, _ => False
  | h + 1, T, v => ∃ (io : Option Addr) (icap : Nat) (ko : Option Addr) (kcap : Nat),
      v = .agg #[.int .i64 T.kind, .string T.num, .string T.text, .slice io T.items.length icap, .slice ko T.keys.length kcap] ∧
      T.num.size ≤ 140737488355328 ∧ T.text.size ≤ 140737488355328 ∧ T.items.length ≤ 140737488355328 ∧ T.keys.length ≤ 140737488355328 ∧ T.items.length ≤ icap ∧ T.keys.length ≤ kcap ∧
      (∀ k ∈ T.keys, k.size ≤ 140737488355328) ∧ KIn W ko T.keys ∧
      (0 < T.items.length → ∃ b off, io = some ⟨b, off, none⟩ ∧ b < W.heap.size ∧ ∀ i, (hi : i < T.items.length) → ∃ v0 v1 v2 v3 v4 : Value,
        (W.cell? ⟨b, off + i * 5, none⟩ = some v0 ∧ W.cell? ⟨b, off + i * 5 + 1, none⟩ = some v1 ∧ W.cell? ⟨b, off + i * 5 + 2, none⟩ = some v2 ∧ W.cell? ⟨b, off + i * 5 + 3, none⟩ = some v3 ∧ W.cell? ⟨b, off + i * 5 + 4, none⟩ = some v4) ∧ InH W h T.items[i] (.agg #[v0, v1, v2, v3, v4]))
theorem InH.keep {W W' : World} (hb : Below W.heap.size W W') : ∀ {h : Nat} {T : VT} {v : Value}, InH W h T v → InH W' h T v
  | 0, _, _, h => h
  | h + 1, T, v, hI => by
    obtain ⟨io, icap, ko, kcap, e, a1, a2, a3, a4, a5, a6, a7, hk, hi⟩ := hI
    refine ⟨io, icap, ko, kcap, e, a1, a2, a3, a4, a5, a6, a7, hk.keep hb, fun h0 => ?_⟩
    obtain ⟨b, off, e2, hl, hc⟩ := hi h0
    refine ⟨b, off, e2, Nat.lt_of_lt_of_le hl hb.size, fun i hil => ?_⟩
    obtain ⟨v0, v1, v2, v3, v4, ⟨c0, c1, c2, c3, c4⟩, ht⟩ := hc i hil
    exact ⟨v0, v1, v2, v3, v4, ⟨(hb.cell (p := ⟨_, _, _⟩) hl).trans c0, (hb.cell (p := ⟨_, _, _⟩) hl).trans c1, (hb.cell (p := ⟨_, _, _⟩) hl).trans c2, (hb.cell (p := ⟨_, _, _⟩) hl).trans c3, (hb.cell (p := ⟨_, _, _⟩) hl).trans c4⟩, InH.keep hb ht⟩

structure IIn (W : World) (h : Nat) (io : Option Addr) (ts : List VT) : Prop where
  row : 0 < ts.length → ∃ b off, io = some ⟨b, off, none⟩ ∧ b < W.heap.size ∧ ∀ i, (hi : i < ts.length) → ∃ v0 v1 v2 v3 v4 : Value,
        (W.cell? ⟨b, off + i * 5, none⟩ = some v0 ∧ W.cell? ⟨b, off + i * 5 + 1, none⟩ = some v1 ∧ W.cell? ⟨b, off + i * 5 + 2, none⟩ = some v2 ∧ W.cell? ⟨b, off + i * 5 + 3, none⟩ = some v3 ∧ W.cell? ⟨b, off + i * 5 + 4, none⟩ = some v4) ∧ InH W h ts[i] (.agg #[v0, v1, v2, v3, v4])
theorem IIn.keep {W W' : World} {h : Nat} {io : Option Addr} {ts : List VT} (hI : IIn W h io ts) (hb : Below W.heap.size W W') : IIn W' h io ts := by
  refine ⟨fun h0 => ?_⟩
  obtain ⟨b, off, e2, hl, hc⟩ := hI.row h0
  refine ⟨b, off, e2, Nat.lt_of_lt_of_le hl hb.size, fun i hil => ?_⟩
  obtain ⟨v0, v1, v2, v3, v4, ⟨c0, c1, c2, c3, c4⟩, ht⟩ := hc i hil
  exact ⟨v0, v1, v2, v3, v4, ⟨(hb.cell (p := ⟨_, _, _⟩) hl).trans c0, (hb.cell (p := ⟨_, _, _⟩) hl).trans c1, (hb.cell (p := ⟨_, _, _⟩) hl).trans c2, (hb.cell (p := ⟨_, _, _⟩) hl).trans c3, (hb.cell (p := ⟨_, _, _⟩) hl).trans c4⟩, InH.keep hb ht⟩

structure VBx (w u : World) (a b c d e : Value) : Prop where
  below : Below w.heap.size w u
  c0 : u.cell? ⟨w.heap.size, 0, none⟩ = some a
  c1 : u.cell? ⟨w.heap.size, 1, none⟩ = some b
  c2 : u.cell? ⟨w.heap.size, 2, none⟩ = some c
  c3 : u.cell? ⟨w.heap.size, 3, none⟩ = some d
  c4 : u.cell? ⟨w.heap.size, 4, none⟩ = some e
  lt : w.heap.size < u.heap.size
theorem VBx.keep {w u u' : World} {a b c d e : Value} (h : VBx w u a b c d e) (hb : Below u.heap.size u u') : VBx w u' a b c d e :=
  ⟨h.below.trans (hb.mono h.below.size), (hb.cell (p := ⟨_, _, _⟩) h.lt).trans h.c0, (hb.cell (p := ⟨_, _, _⟩) h.lt).trans h.c1, (hb.cell (p := ⟨_, _, _⟩) h.lt).trans h.c2, (hb.cell (p := ⟨_, _, _⟩) h.lt).trans h.c3, (hb.cell (p := ⟨_, _, _⟩) h.lt).trans h.c4, Nat.lt_of_lt_of_le h.lt hb.size⟩
theorem VBx.drew {w u : World} {a b c d e : Value} (h : VBx w u a b c d e) : VBx w u.drew a b c d e := ⟨h.below.drew, h.c0, h.c1, h.c2, h.c3, h.c4, h.lt⟩
theorem vbx_new (w : World) (a b c d e : Value) : VBx w (w.alloc (.cells #[a, b, c, d, e] 49)) a b c d e :=
  ⟨(Below.refl _ _).alloc (Nat.le_refl _) _, by simp [go_sem], by simp [go_sem], by simp [go_sem], by simp [go_sem], by simp [go_sem], by simp⟩

end Go.Proofs.YtfjmgccbpiolhaaGreatDoor
namespace Go.Proofs.YtfjmgccbpiolhaaGreatDoor
open Go.RowKit
set_option linter.unusedVariables false
set_option linter.unusedSimpArgs false

def trB (l : List UInt8) (n lo hi : Nat) : Bool := decide (n ≤ l.length) && (l.take n).all (fun b => decide (128 ≤ b.toNat) && decide (b.toNat ≤ 191)) && (decide (lo ≤ (l.getD 0 0).toNat) && decide ((l.getD 0 0).toNat ≤ hi))

theorem byteD' {s : ByteArray} {f : Nat} (h : f < s.size) : s.data.toList.getD f 0 = s[f]'h := by
  have hl0 : f < s.data.toList.length := by rw [Array.length_toList]; exact h
  rw [List.getD_eq_getElem?_getD, List.getElem?_eq_getElem hl0]; rfl
theorem sizeLn (s : ByteArray) : s.data.toList.length = s.size := by rw [Array.length_toList]; rfl
theorem getD_dropN (l : List UInt8) (k j : Nat) : (l.drop k).getD j 0 = l.getD (k + j) 0 := by simp [List.getD, List.getElem?_drop]
theorem takeN {s : ByteArray} {f k : Nat} (h : f + k < s.size) : (s.data.toList.drop f).take (k + 1) = (s.data.toList.drop f).take k ++ [s[f + k]'h] := by
  have hl : k < (s.data.toList.drop f).length := by rw [List.length_drop, sizeLn]; omega
  rw [List.take_add_one, List.getElem?_eq_getElem hl]
  simp only [Option.toList_some, List.getElem_drop]
  rfl

set_option maxRecDepth 100000 in
set_option maxHeartbeats 1600000 in
theorem w_trail (s : ByteArray) (f n lo hi : Nat) (w : World) (hn : 1 ≤ n) (hn3 : n ≤ 3) (hf : f ≤ s.size) (hs : s.size ≤ 281474976710656) (hlo : lo ≤ 255) (hhi : hi ≤ 255) :
    Calls Tryz.prog 127 #[.string s, .int .i64 (f : Int), .int .i64 (n : Int), .int .u8 (lo : Int), .int .u8 (hi : Int)] w fun e w' => e = .returned (.bool (trB (s.data.toList.drop f) n lo hi)) ∧ w' = w := by
  by_cases hle : f + n ≤ s.size
  · have hg : ¬ (s.size : Int) < (f : Int) + (n : Int) := by omega
    have HL : Hid (decide (n ≤ (s.data.toList.drop f).length) = true) := by show _ = _; rw [List.length_drop, sizeLn]; exact decide_eq_true (by omega)
    have l0 : f < s.size := by omega
    have HG : Hid ((s.data.toList.drop f).getD 0 0 = s[f]'l0) := by show _ = _; rw [getD_dropN, Nat.add_zero, byteD' l0]
    go_enter Tryz.func127, Tryz.ntmps127
    go_wp2_with fail
    go_loopw [11] (fun i wr => ∃ k : Nat, k ≤ n ∧ i = .int .i64 (k : Int) ∧ wr = w ∧ Hid (((s.data.toList.drop f).take k).all (fun b => decide (128 ≤ b.toNat) && decide (b.toNat ≤ 191)) = true)) (fun i _ => n - (intOf i).toNat)
    case atStart => exact ⟨0, Nat.zero_le _, rfl, rfl, rfl⟩
    case round =>
      obtain ⟨k, hk, rfl, rfl, HQ⟩ := hrel
      by_cases hlt : k < n
      · have hl1 : (k : Int) < (n : Int) := by omega
        have lk : f + k < s.size := by omega
        have ik : (f : Int) + (k : Int) < (s.size : Int) := by omega
        obtain ⟨c, hc⟩ : ∃ c, s[f + k]'lk = c := ⟨_, rfl⟩
        have HT := Hid.mk (takeN lk)
        rw [hc] at HT
        obtain ⟨x, hx⟩ : ∃ x : Int, ((c.toNat : Nat) : Int) = x := ⟨_, rfl⟩
        have HX := Hid.mk hx
        have hx0 : 0 ≤ x := by omega
        have hx1 : x ≤ 255 := by have := c.toNat_lt; omega
        have hbad : (¬ (128 ≤ x ∧ x ≤ 191)) → trB (s.data.toList.drop f) n lo hi = false := by
          intro hb
          have : (s.data.toList.drop f |>.take n).all (fun b => decide (128 ≤ b.toNat) && decide (b.toNat ≤ 191)) = false := by
            rw [List.all_eq_false]
            refine ⟨c, ?_, ?_⟩
            · have hm1 : c ∈ (s.data.toList.drop f).take (k + 1) := by rw [HT.out]; simp
              exact List.mem_of_mem_take (i := k + 1) (by rw [List.take_take, Nat.min_eq_left (by omega)]; exact hm1)
            · simp; intro h; have := HX.out; omega
          unfold trB
          rw [this, Bool.and_false, Bool.false_and]
        have HBad := Hid.mk hbad
        clear hbad
        have hcs : x < 128 ∨ (¬ x < 128 ∧ 191 < x) ∨ (¬ x < 128 ∧ ¬ 191 < x) := by omega
        rcases hcs with a | ⟨a, b⟩ | ⟨a, b⟩
        · have HF := Hid.mk (HBad.out (by omega))
          go_wp2_with fail
          go_ret
          exact ⟨by rw [HF.out]; rfl, rfl⟩
        · have HF := Hid.mk (HBad.out (by omega))
          go_wp2_with fail
          go_ret
          exact ⟨by rw [HF.out]; rfl, rfl⟩
        · have HN : Hid (((s.data.toList.drop f).take (k + 1)).all (fun b => decide (128 ≤ b.toNat) && decide (b.toNat ≤ 191)) = true) := by
            show _ = _
            rw [HT.out, List.all_append, HQ.out]
            simp
            have := HX.out
            omega
          go_wp2_with fail
          go_roundw
          case rel => exact ⟨k + 1, hlt, by go_num, trivial, HN⟩
          case measure => simp [intOf]; omega
      · have hl1 : ¬ (k : Int) < (n : Int) := by omega
        obtain rfl : k = n := by omega
        have i0 : (f : Int) < (s.size : Int) := by omega
        obtain ⟨c, hc⟩ : ∃ c, s[f]'l0 = c := ⟨_, rfl⟩
        have HF : Hid (trB (s.data.toList.drop f) k lo hi = (decide (lo ≤ c.toNat) && decide (c.toNat ≤ hi))) := by
          show _ = _
          unfold trB
          rw [HL.out, HQ.out, HG.out, hc]; rfl
        by_cases h1 : lo ≤ c.toNat
        · have g1 : (lo : Int) ≤ (c.toNat : Int) := by omega
          by_cases h2 : c.toNat ≤ hi
          · have g2 : (c.toNat : Int) ≤ (hi : Int) := by omega
            have HF2 : Hid (trB (s.data.toList.drop f) k lo hi = true) := by rw [HF.out, decide_eq_true h1, decide_eq_true h2]; rfl
            clear h1 h2 HF
            go_wp2_with fail
            go_ret
            exact ⟨by rw [HF2.out]; first | rfl | simp, rfl⟩
          · have g2 : ¬ (c.toNat : Int) ≤ (hi : Int) := by omega
            have HF2 : Hid (trB (s.data.toList.drop f) k lo hi = false) := by rw [HF.out, decide_eq_true h1, decide_eq_false h2]; rfl
            clear h1 h2 HF
            go_wp2_with fail
            go_ret
            exact ⟨by rw [HF2.out]; first | rfl | simp, rfl⟩
        · have g1 : ¬ (lo : Int) ≤ (c.toNat : Int) := by omega
          have HF2 : Hid (trB (s.data.toList.drop f) k lo hi = false) := by rw [HF.out, decide_eq_false h1]; rfl
          clear h1 HF
          go_wp2_with fail
          go_ret
          exact ⟨by rw [HF2.out]; first | rfl | simp, rfl⟩
  · have hg : (s.size : Int) < (f : Int) + (n : Int) := by omega
    have HF : Hid (trB (s.data.toList.drop f) n lo hi = false) := by
      show _ = _
      unfold trB
      rw [List.length_drop, sizeLn, decide_eq_false (by omega)]; rfl
    go_enter Tryz.func127, Tryz.ntmps127
    go_wp2_with fail
    go_ret
    exact ⟨by rw [HF.out]; rfl, rfl⟩

def loB (c : Nat) : Nat := if c = 224 then 160 else if c = 240 then 144 else 128
def hiB (c : Nat) : Nat := if c = 237 then 159 else if c = 244 then 143 else 191
def rW (l : List UInt8) : Nat :=
  if (l.getD 0 0).toNat < 128 then 1
  else if (194 ≤ (l.getD 0 0).toNat ∧ (l.getD 0 0).toNat ≤ 223) ∧ trB (l.drop 1) 1 128 191 = true then 2
  else if (224 ≤ (l.getD 0 0).toNat ∧ (l.getD 0 0).toNat ≤ 239) ∧ trB (l.drop 1) 2 (loB (l.getD 0 0).toNat) (hiB (l.getD 0 0).toNat) = true then 3
  else if (240 ≤ (l.getD 0 0).toNat ∧ (l.getD 0 0).toNat ≤ 244) ∧ trB (l.drop 1) 3 (loB (l.getD 0 0).toNat) (hiB (l.getD 0 0).toNat) = true then 4
  else 0

set_option maxRecDepth 100000 in
set_option maxHeartbeats 6400000 in
theorem w_width (s : ByteArray) (f : Nat) (w : World) (hf : f < s.size) (hs : s.size ≤ 281474976710656) :
    Calls Tryz.prog 99 #[.string s, .int .i64 (f : Int)] w fun e w' => e = .returned (.int .i64 ((rW (s.data.toList.drop f) : Nat) : Int)) ∧ w' = w := by
  have i0 : (f : Int) < (s.size : Int) := by omega
  obtain ⟨c, hc⟩ : ∃ c, s[f]'hf = c := ⟨_, rfl⟩
  have hh : (s.data.toList.drop f).getD 0 0 = c := by rw [getD_dropN, Nat.add_zero, byteD' hf, hc]
  have hd1 : (s.data.toList.drop f).drop 1 = s.data.toList.drop (f + 1) := by rw [List.drop_drop]
  have HT : Hid (∀ n lo hi : Nat, 1 ≤ n → n ≤ 3 → lo ≤ 255 → hi ≤ 255 → ∀ u, Calls Tryz.prog 127 #[.string s, .int .i64 ((f : Int) + 1), .int .i64 (n : Int), .int .u8 (lo : Int), .int .u8 (hi : Int)] u fun e w' => e = .returned (.bool (trB (s.data.toList.drop (f + 1)) n lo hi)) ∧ w' = u) := by
    intro n lo hi h1 h2 h3 h4 u
    have := w_trail s (f + 1) n lo hi u h1 h2 (by omega) hs h3 h4
    rw [show ((f + 1 : Nat) : Int) = (f : Int) + 1 by omega] at this
    exact this
  have hR : rW (s.data.toList.drop f) = if c.toNat < 128 then 1 else if (194 ≤ c.toNat ∧ c.toNat ≤ 223) ∧ trB (s.data.toList.drop (f + 1)) 1 128 191 = true then 2 else if (224 ≤ c.toNat ∧ c.toNat ≤ 239) ∧ trB (s.data.toList.drop (f + 1)) 2 (loB c.toNat) (hiB c.toNat) = true then 3 else if (240 ≤ c.toNat ∧ c.toNat ≤ 244) ∧ trB (s.data.toList.drop (f + 1)) 3 (loB c.toNat) (hiB c.toNat) = true then 4 else 0 := by
    unfold rW; rw [hh, hd1]
  have hx1 := c.toNat_lt
  clear hh hd1
  obtain ⟨x, hx⟩ : ∃ x : Int, ((c.toNat : Nat) : Int) = x := ⟨_, rfl⟩
  have hcs : x < 128 ∨ (¬ x < 128 ∧ ¬ 194 ≤ x) ∨ (¬ x < 128 ∧ 194 ≤ x ∧ x ≤ 223) ∨ (¬ x < 128 ∧ 194 ≤ x ∧ ¬ x ≤ 223 ∧ 224 ≤ x ∧ x ≤ 239) ∨ (¬ x < 128 ∧ 194 ≤ x ∧ ¬ x ≤ 223 ∧ 224 ≤ x ∧ ¬ x ≤ 239 ∧ 240 ≤ x ∧ x ≤ 244) ∨ (¬ x < 128 ∧ 194 ≤ x ∧ ¬ x ≤ 223 ∧ 224 ≤ x ∧ ¬ x ≤ 239 ∧ 240 ≤ x ∧ ¬ x ≤ 244) := by omega
  rcases hcs with a | ⟨a, b⟩ | ⟨a, b, d⟩ | ⟨a, b, d, e, g⟩ | ⟨a, b, d, e, g, i, j⟩ | ⟨a, b, d, e, g, i, j⟩
  · have HF : Hid (rW (s.data.toList.drop f) = 1) := by show _ = _; rw [hR, if_pos (by omega)]
    clear hR hx1
    go_enter Tryz.func99, Tryz.ntmps99
    go_wp2_with fail
    go_ret
    exact ⟨by rw [HF.out]; rfl, rfl⟩
  · have HF : Hid (rW (s.data.toList.drop f) = 0) := by show _ = _; rw [hR, if_neg (by omega), if_neg (by omega), if_neg (by omega), if_neg (by omega)]
    have q1 : (x == 224) = false := by rw [beq_eq_false_iff_ne]; omega
    have q2 : (x == 237) = false := by rw [beq_eq_false_iff_ne]; omega
    have q3 : (x == 240) = false := by rw [beq_eq_false_iff_ne]; omega
    have q4 : (x == 244) = false := by rw [beq_eq_false_iff_ne]; omega
    have z1 : ¬ 224 ≤ x := by omega
    have z2 : ¬ 240 ≤ x := by omega
    clear hR hx1
    go_enter Tryz.func99, Tryz.ntmps99
    go_wp2_with fail
    go_ret
    exact ⟨by rw [HF.out]; rfl, rfl⟩
  · have q1 : (x == 224) = false := by rw [beq_eq_false_iff_ne]; omega
    have q2 : (x == 237) = false := by rw [beq_eq_false_iff_ne]; omega
    have q3 : (x == 240) = false := by rw [beq_eq_false_iff_ne]; omega
    have q4 : (x == 244) = false := by rw [beq_eq_false_iff_ne]; omega
    have z1 : ¬ 224 ≤ x := by omega
    have z2 : ¬ 240 ≤ x := by omega
    have HT1 := Hid.mk (HT.out 1 128 191 (by omega) (by omega) (by omega) (by omega))
    cases ht : trB (s.data.toList.drop (f + 1)) 1 128 191 with
    | true =>
      rw [ht] at HT1
      have HF : Hid (rW (s.data.toList.drop f) = 2) := by show _ = _; rw [hR, if_neg (by omega), if_pos ⟨by omega, ht⟩]
      clear hR hx1 ht HT
      go_enter Tryz.func99, Tryz.ntmps99
      go_wp2_with fail
      refine (HT1.out _).mono ?_
      rintro e w1 ⟨rfl, hw⟩
      obtain rfl := hw.symm
      go_wp2_with fail
      go_ret
      exact ⟨by rw [HF.out]; rfl, rfl⟩
    | false =>
      rw [ht] at HT1
      have HF : Hid (rW (s.data.toList.drop f) = 0) := by show _ = _; rw [hR, if_neg (by omega), if_neg (by rw [ht]; simp), if_neg (by omega), if_neg (by omega)]
      clear hR hx1 ht HT
      go_enter Tryz.func99, Tryz.ntmps99
      go_wp2_with fail
      refine (HT1.out _).mono ?_
      rintro e w1 ⟨rfl, hw⟩
      obtain rfl := hw.symm
      go_wp2_with fail
      go_ret
      exact ⟨by rw [HF.out]; rfl, rfl⟩
  · have q3 : (x == 240) = false := by rw [beq_eq_false_iff_ne]; omega
    have q4 : (x == 244) = false := by rw [beq_eq_false_iff_ne]; omega
    have z2 : ¬ 240 ≤ x := by omega
    obtain ⟨lo, hi, hlo, hhi, hl2, hh2, hcase⟩ : ∃ lo hi : Nat, loB c.toNat = lo ∧ hiB c.toNat = hi ∧ lo ≤ 255 ∧ hi ≤ 255 ∧ (((x == 224) = true ∧ (x == 237) = false ∧ lo = 160 ∧ hi = 191) ∨ ((x == 224) = false ∧ (x == 237) = true ∧ lo = 128 ∧ hi = 159) ∨ ((x == 224) = false ∧ (x == 237) = false ∧ lo = 128 ∧ hi = 191)) := by
      by_cases h1 : x = 224
      · have hc1 : c.toNat = 224 := by omega
        exact ⟨160, 191, by rw [hc1]; rfl, by rw [hc1]; rfl, by omega, by omega, .inl ⟨by rw [h1]; rfl, by rw [h1]; rfl, rfl, rfl⟩⟩
      by_cases h2 : x = 237
      · have hc1 : c.toNat = 237 := by omega
        exact ⟨128, 159, by rw [hc1]; rfl, by rw [hc1]; rfl, by omega, by omega, .inr (.inl ⟨by rw [h2]; rfl, by rw [h2]; rfl, rfl, rfl⟩)⟩
      · exact ⟨128, 191, by unfold loB; rw [if_neg (by omega), if_neg (by omega)], by unfold hiB; rw [if_neg (by omega), if_neg (by omega)], by omega, by omega, .inr (.inr ⟨by rw [beq_eq_false_iff_ne]; exact h1, by rw [beq_eq_false_iff_ne]; exact h2, rfl, rfl⟩)⟩
    rw [hlo, hhi] at hR
    have HT1 := Hid.mk (HT.out 2 lo hi (by omega) (by omega) hl2 hh2)
    clear hlo hhi HT
    cases ht : trB (s.data.toList.drop (f + 1)) 2 lo hi with
    | true =>
      rw [ht] at HT1
      have HF : Hid (rW (s.data.toList.drop f) = 3) := by show _ = _; rw [hR, if_neg (by omega), if_neg (by omega), if_pos ⟨by omega, ht⟩]
      clear hR hx1 ht
      rcases hcase with ⟨q1, q2, rfl, rfl⟩ | ⟨q1, q2, rfl, rfl⟩ | ⟨q1, q2, rfl, rfl⟩
      all_goals
        go_enter Tryz.func99, Tryz.ntmps99
        go_wp2_with fail
        refine (HT1.out _).mono ?_
        rintro e w1 ⟨rfl, hw⟩
        obtain rfl := hw.symm
        go_wp2_with fail
        go_ret
        exact ⟨by rw [HF.out]; rfl, rfl⟩
    | false =>
      rw [ht] at HT1
      have HF : Hid (rW (s.data.toList.drop f) = 0) := by show _ = _; rw [hR, if_neg (by omega), if_neg (by omega), if_neg (by rw [ht]; simp), if_neg (by omega)]
      clear hR hx1 ht
      rcases hcase with ⟨q1, q2, rfl, rfl⟩ | ⟨q1, q2, rfl, rfl⟩ | ⟨q1, q2, rfl, rfl⟩
      all_goals
        go_enter Tryz.func99, Tryz.ntmps99
        go_wp2_with fail
        refine (HT1.out _).mono ?_
        rintro e w1 ⟨rfl, hw⟩
        obtain rfl := hw.symm
        go_wp2_with fail
        go_ret
        exact ⟨by rw [HF.out]; rfl, rfl⟩
  · have q1 : (x == 224) = false := by rw [beq_eq_false_iff_ne]; omega
    have q2 : (x == 237) = false := by rw [beq_eq_false_iff_ne]; omega
    obtain ⟨lo, hi, hlo, hhi, hl2, hh2, hcase⟩ : ∃ lo hi : Nat, loB c.toNat = lo ∧ hiB c.toNat = hi ∧ lo ≤ 255 ∧ hi ≤ 255 ∧ (((x == 240) = true ∧ (x == 244) = false ∧ lo = 144 ∧ hi = 191) ∨ ((x == 240) = false ∧ (x == 244) = true ∧ lo = 128 ∧ hi = 143) ∨ ((x == 240) = false ∧ (x == 244) = false ∧ lo = 128 ∧ hi = 191)) := by
      by_cases h1 : x = 240
      · have hc1 : c.toNat = 240 := by omega
        exact ⟨144, 191, by rw [hc1]; rfl, by rw [hc1]; rfl, by omega, by omega, .inl ⟨by rw [h1]; rfl, by rw [h1]; rfl, rfl, rfl⟩⟩
      by_cases h2 : x = 244
      · have hc1 : c.toNat = 244 := by omega
        exact ⟨128, 143, by rw [hc1]; rfl, by rw [hc1]; rfl, by omega, by omega, .inr (.inl ⟨by rw [h2]; rfl, by rw [h2]; rfl, rfl, rfl⟩)⟩
      · exact ⟨128, 191, by unfold loB; rw [if_neg (by omega), if_neg (by omega)], by unfold hiB; rw [if_neg (by omega), if_neg (by omega)], by omega, by omega, .inr (.inr ⟨by rw [beq_eq_false_iff_ne]; exact h1, by rw [beq_eq_false_iff_ne]; exact h2, rfl, rfl⟩)⟩
    rw [hlo, hhi] at hR
    have HT1 := Hid.mk (HT.out 3 lo hi (by omega) (by omega) hl2 hh2)
    clear hlo hhi HT
    cases ht : trB (s.data.toList.drop (f + 1)) 3 lo hi with
    | true =>
      rw [ht] at HT1
      have HF : Hid (rW (s.data.toList.drop f) = 4) := by show _ = _; rw [hR, if_neg (by omega), if_neg (by omega), if_neg (by omega), if_pos ⟨by omega, ht⟩]
      clear hR hx1 ht
      rcases hcase with ⟨q3, q4, rfl, rfl⟩ | ⟨q3, q4, rfl, rfl⟩ | ⟨q3, q4, rfl, rfl⟩
      all_goals
        go_enter Tryz.func99, Tryz.ntmps99
        go_wp2_with fail
        refine (HT1.out _).mono ?_
        rintro e w1 ⟨rfl, hw⟩
        obtain rfl := hw.symm
        go_wp2_with fail
        go_ret
        exact ⟨by rw [HF.out]; rfl, rfl⟩
    | false =>
      rw [ht] at HT1
      have HF : Hid (rW (s.data.toList.drop f) = 0) := by show _ = _; rw [hR, if_neg (by omega), if_neg (by omega), if_neg (by omega), if_neg (by rw [ht]; simp)]
      clear hR hx1 ht
      rcases hcase with ⟨q3, q4, rfl, rfl⟩ | ⟨q3, q4, rfl, rfl⟩ | ⟨q3, q4, rfl, rfl⟩
      all_goals
        go_enter Tryz.func99, Tryz.ntmps99
        go_wp2_with fail
        refine (HT1.out _).mono ?_
        rintro e w1 ⟨rfl, hw⟩
        obtain rfl := hw.symm
        go_wp2_with fail
        go_ret
        exact ⟨by rw [HF.out]; rfl, rfl⟩
  · have HF : Hid (rW (s.data.toList.drop f) = 0) := by show _ = _; rw [hR, if_neg (by omega), if_neg (by omega), if_neg (by omega), if_neg (by omega)]
    have q1 : (x == 224) = false := by rw [beq_eq_false_iff_ne]; omega
    have q2 : (x == 237) = false := by rw [beq_eq_false_iff_ne]; omega
    have q3 : (x == 240) = false := by rw [beq_eq_false_iff_ne]; omega
    have q4 : (x == 244) = false := by rw [beq_eq_false_iff_ne]; omega
    clear hR hx1
    go_enter Tryz.func99, Tryz.ntmps99
    go_wp2_with fail
    go_ret
    exact ⟨by rw [HF.out]; rfl, rfl⟩
end Go.Proofs.YtfjmgccbpiolhaaGreatDoor
