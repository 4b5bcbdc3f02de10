import Derived.Test.YthcohnnikmpjkaaV10
namespace Go.Proofs.Ythcohnnikmpjkaa
open Go.RowKit
set_option linter.unusedVariables false
set_option linter.unusedSimpArgs false

/-- the text of runes -/
def txt (zs : List Nat) : List UInt8 := zs.flatMap enc
def okB (l : List UInt8) : Bool := decide (txt (runes l) = l)
theorem ok_nil : okB [] = true := by decide
theorem ok_enc (n : Nat) (hn : isR n) (post : List UInt8) : okB (enc n ++ post) = okB post := by
  unfold okB
  rw [runes_enc n hn post]
  have e : txt (n :: runes post) = enc n ++ txt (runes post) := rfl
  rw [e]
  by_cases h : txt (runes post) = post
  · rw [decide_eq_true h, decide_eq_true (by rw [h])]
  · rw [decide_eq_false h, decide_eq_false (fun h2 => h (List.append_cancel_left h2))]
theorem ok_stray (l : List UInt8) (h : l ≠ []) (e : decL l = (65533, 1)) : okB l = false := by
  unfold okB
  refine decide_eq_false fun h2 => ?_
  rw [runes_cons h, e] at h2
  have e2 : l = enc 65533 ++ txt (runes (l.drop 1)) := h2.symm
  have hd := dec_enc 65533 (by unfold isR; omega) (txt (runes (l.drop 1)))
  rw [← e2, e, enc_err] at hd
  cases hd
theorem runes_txt (zs : List Nat) (h : ∀ z ∈ zs, isR z) : runes (txt zs) = zs := by
  induction zs with
  | nil => rfl
  | cons z r ih =>
    have e : txt (z :: r) = enc z ++ txt r := rfl
    rw [e, runes_enc z (h z (List.mem_cons_self ..)), ih fun y hy => h y (List.mem_cons_of_mem _ hy)]
theorem ok_txt (zs : List Nat) (h : ∀ z ∈ zs, isR z) : okB (txt zs) = true := by
  unfold okB; rw [runes_txt zs h]; simp
theorem runes_isR (l : List UInt8) : ∀ z ∈ runes l, isR z := by
  have : ∀ n, ∀ l : List UInt8, l.length ≤ n → ∀ z ∈ runes l, isR z := by
    intro n
    induction n with
    | zero =>
      intro l hl
      have e : l = [] := List.eq_nil_of_length_eq_zero (by omega)
      subst e; intro z hz; cases hz
    | succ n ih =>
      intro l hl z hz
      by_cases h : l = []
      · subst h; cases hz
      · have hp := decL_pos l
        have hlen : 0 < l.length := List.length_pos_iff.2 h
        rw [runes_cons h] at hz
        rcases List.mem_cons.1 hz with rfl | hz
        · exact decL_isR l h
        · exact ih _ (by rw [List.length_drop]; omega) z hz
  exact this l.length l (Nat.le_refl _)
theorem rn_nat {n : Nat} (h : isR n) : rn (n : Int) = n := by
  unfold rn
  rw [← valid_rn, valid_of h]; simp

set_option maxRecDepth 100000 in
set_option maxHeartbeats 800000 in
theorem w_stray (s : ByteArray) (p r : Nat) (w : World) (hp : p ≤ s.size) :
    Calls Try.prog 81 #[.string s, .int .i64 (p : Int), .int .i32 (r : Int)] w fun e w' => e = .returned (.bool (r == 65533 && !(Lib.hasPrefix (s.data.toList.drop p) [239, 191, 189]))) ∧ w' = w := by
  have hpi : (p : Int) ≤ (s.size : Int) := by omega
  have HP := Hid.mk (fun u => Try.strings_HasPrefix (s.extract p s.size) ⟨#[239, 191, 189]⟩ u)
  rw [extract_drop] at HP
  by_cases hr : r = 65533
  · subst hr
    generalize s.data.toList.drop p = l at *
    go_enter Try.func81, Try.ntmps81
    go_wp2_with fail
    refine (HP.out _).mono ?_
    rintro e w1 ⟨rfl, hw⟩
    obtain rfl := hw.symm
    go_wp2_with fail
    go_ret
    exact ⟨by first | rfl | simp, rfl⟩
  · have hr2 : (((r : Nat) : Int) == 65533) = false := by rw [beq_eq_false_iff_ne]; omega
    rw [show (r == 65533) = false from beq_eq_false_iff_ne.2 hr]
    exact w_stray_no s (p : Int) (r : Int) w hr2

theorem nxt2 (w : World) (s : ByteArray) (p : Nat) (ty : TypeId) (h : p < s.size) :
    (Instr.next (.pointer (some ⟨w.heap.size, 0, none⟩)) true ty).run Try.prog (w.iter s p) = .ok (.tuple #[.bool true, .int .i64 (p : Int), .int .i32 ((decL (s.data.toList.drop p)).1 : Int)]) (w.iter s (p + (decL (s.data.toList.drop p)).2)) := by
  have := run_next_any (P := Try.prog) w s p ty h
  rw [decode_eq s p (by omega)] at this
  exact this
theorem drop_ne {s : ByteArray} {p : Nat} (h : p < s.size) : s.data.toList.drop p ≠ [] := by
  intro e
  have := congrArg List.length e
  rw [List.length_drop, Array.length_toList, List.length_nil] at this
  have e2 : s.data.size = s.size := rfl
  omega
theorem drop_all {s : ByteArray} {p : Nat} (h : ¬ p < s.size) : s.data.toList.drop p = [] := List.drop_eq_nil_of_le (by simp; omega)
theorem step_le {s : ByteArray} {p : Nat} (h : p < s.size) : p + (decL (s.data.toList.drop p)).2 ≤ s.size := by
  have := decL_le _ (drop_ne h)
  rw [List.length_drop, Array.length_toList] at this
  have e2 : s.data.size = s.size := rfl
  omega

set_option maxRecDepth 100000 in
set_option maxHeartbeats 800000 in
theorem w_Valid (s : ByteArray) (w : World) (hs : s.size ≤ 9223372036854775806) :
    Calls Try.prog 59 #[.string s] w fun e w' => e = .returned (.bool (okB s.data.toList)) ∧ Below w.heap.size w w' := by
  go_enter Try.func59, Try.ntmps59
  go_wp2_with fail
  go_loopw [3, 4] (fun _ _ wr => ∃ (pos : Nat), wr = w.iter s pos ∧ pos ≤ s.size ∧ Hid (okB s.data.toList = okB (s.data.toList.drop pos))) (fun _ _ wr => s.size - wr.iterPos w.heap.size)
  case atStart => exact ⟨0, rfl, Nat.zero_le _, by show _ = _; rw [List.drop_zero]⟩
  case round =>
    obtain ⟨pos, rfl, hpos, HR⟩ := hrel
    by_cases hp : pos < s.size
    · have hnx : ∀ ty, _ := fun ty => nxt2 w s pos ty hp
      have H1 := Hid.mk (decL_pos (s.data.toList.drop pos))
      have H2 := Hid.mk (step_le hp)
      have HS := Hid.mk (fun u => w_stray s pos (decL (s.data.toList.drop pos)).1 u hpos)
      rcases stray_or _ (drop_ne hp) with ⟨n, post, hn, he, hst⟩ | ⟨he, hst⟩
      · have H3 : Hid (okB (s.data.toList.drop pos) = okB (s.data.toList.drop (pos + (decL (s.data.toList.drop pos)).2))) := by
          show _ = _
          have e2 : s.data.toList.drop (pos + (decL (s.data.toList.drop pos)).2) = post := by
            rw [← List.drop_drop, he, dec_enc n hn post, List.drop_append_of_le_length (Nat.le_refl _), List.drop_length]; rfl
          rw [e2, he, ok_enc n hn]
        have HT := Hid.mk hst
        clear he hst
        go_wp2_with fail
        refine (HS.out _).mono ?_
        rintro e w1 ⟨rfl, hw⟩
        obtain rfl := hw.symm
        have ht := HT.out
        unfold strayL at ht
        rw [ht]
        clear ht
        go_wp2_with fail
        go_roundw
        case rel => exact ⟨_, rfl, H2.out, by show _ = _; rw [HR.out, H3.out]⟩
        case measure =>
          have := H1.out
          have := H2.out
          simp
          omega
      · have HF : Hid (okB s.data.toList = false) := by show _ = _; rw [HR.out, ok_stray _ (drop_ne hp) he]
        have HT := Hid.mk hst
        clear he hst
        go_wp2_with fail
        refine (HS.out _).mono ?_
        rintro e w1 ⟨rfl, hw⟩
        obtain rfl := hw.symm
        have ht := HT.out
        unfold strayL at ht
        rw [ht]
        clear ht
        go_wp2_with fail
        go_ret
        exact ⟨by rw [HF.out]; rfl, iter_below w s _⟩
    · have hnx := fun ty => run_next_end (P := Try.prog) w s pos ty hp
      have HF : Hid (okB s.data.toList = true) := by show _ = _; rw [HR.out, drop_all hp]; exact ok_nil
      go_wp2_with fail
      go_ret
      exact ⟨by rw [HF.out]; rfl, iter_below w s _⟩
end Go.Proofs.Ythcohnnikmpjkaa
