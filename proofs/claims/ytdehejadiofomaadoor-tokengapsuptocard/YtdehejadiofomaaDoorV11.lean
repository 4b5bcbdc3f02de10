import Derived.Test.YtdehejadiofomaaDoorV10
namespace Go.Proofs.YtdehejadiofomaaDoor
open Go.RowKit
set_option linter.unusedVariables false
set_option linter.unusedSimpArgs false

/-- the text of runes -/
def txt (zs : List Nat) : List UInt8 := zs.flatMap enc
def okB (l : List UInt8) : Bool := decide (txt (runes l) = l)
theorem ok_nil : okB [] = true := by decide
theorem ok_enc (n : Nat) (hn : isR n) (post : List UInt8) : okB (enc n ++ post) = okB post := by
  unfold okB
  rw [runes_enc n hn post]
  have e : txt (n :: runes post) = enc n ++ txt (runes post) := rfl
  rw [e]
  by_cases h : txt (runes post) = post
  · rw [decide_eq_true h, decide_eq_true (by rw [h])]
  · rw [decide_eq_false h, decide_eq_false (fun h2 => h (List.append_cancel_left h2))]
theorem ok_stray (l : List UInt8) (h : l ≠ []) (e : decL l = (65533, 1)) : okB l = false := by
  unfold okB
  refine decide_eq_false fun h2 => ?_
  rw [runes_cons h, e] at h2
  have e2 : l = enc 65533 ++ txt (runes (l.drop 1)) := h2.symm
  have hd := dec_enc 65533 (by unfold isR; omega) (txt (runes (l.drop 1)))
  rw [← e2, e, enc_err] at hd
  cases hd
theorem runes_txt (zs : List Nat) (h : ∀ z ∈ zs, isR z) : runes (txt zs) = zs := by
  induction zs with
  | nil => rfl
  | cons z r ih =>
    have e : txt (z :: r) = enc z ++ txt r := rfl
    rw [e, runes_enc z (h z (List.mem_cons_self ..)), ih fun y hy => h y (List.mem_cons_of_mem _ hy)]
theorem ok_txt (zs : List Nat) (h : ∀ z ∈ zs, isR z) : okB (txt zs) = true := by
  unfold okB; rw [runes_txt zs h]; simp
theorem runes_isR (l : List UInt8) : ∀ z ∈ runes l, isR z := by
  have : ∀ n, ∀ l : List UInt8, l.length ≤ n → ∀ z ∈ runes l, isR z := by
    intro n
    induction n with
    | zero =>
      intro l hl
      have e : l = [] := List.eq_nil_of_length_eq_zero (by omega)
      subst e; intro z hz; cases hz
    | succ n ih =>
      intro l hl z hz
      by_cases h : l = []
      · subst h; cases hz
      · have hp := decL_pos l
        have hlen : 0 < l.length := List.length_pos_iff.2 h
        rw [runes_cons h] at hz
        rcases List.mem_cons.1 hz with rfl | hz
        · exact decL_isR l h
        · exact ih _ (by rw [List.length_drop]; omega) z hz
  exact this l.length l (Nat.le_refl _)
theorem rn_nat {n : Nat} (h : isR n) : rn (n : Int) = n := by
  unfold rn
  rw [← valid_rn, valid_of h]; simp

set_option maxRecDepth 100000 in
set_option maxHeartbeats 800000 in
theorem w_stray (s : ByteArray) (p r : Nat) (w : World) (hp : p ≤ s.size) :
    Calls Tryd.prog 55 #[.string s, .int .i64 (p : Int), .int .i32 (r : Int)] w fun e w' => e = .returned (.bool (r == 65533 && !(Lib.hasPrefix (s.data.toList.drop p) [239, 191, 189]))) ∧ w' = w := by
  have hpi : (p : Int) ≤ (s.size : Int) := by omega
  have HP := Hid.mk (fun u => Tryd.strings_HasPrefix (s.extract p s.size) ⟨#[239, 191, 189]⟩ u)
  rw [extract_drop] at HP
  by_cases hr : r = 65533
  · subst hr
    generalize s.data.toList.drop p = l at *
    go_enter Tryd.func55, Tryd.ntmps55
    go_wp2_with fail
    refine (HP.out _).mono ?_
    rintro e w1 ⟨rfl, hw⟩
    obtain rfl := hw.symm
    go_wp2_with fail
    go_ret
    exact ⟨by first | rfl | simp, rfl⟩
  · have hr2 : (((r : Nat) : Int) == 65533) = false := by rw [beq_eq_false_iff_ne]; omega
    rw [show (r == 65533) = false from beq_eq_false_iff_ne.2 hr]
    exact w_stray_no s (p : Int) (r : Int) w hr2

theorem nxt2 (w : World) (s : ByteArray) (p : Nat) (ty : TypeId) (h : p < s.size) :
    (Instr.next (.pointer (some ⟨w.heap.size, 0, none⟩)) true ty).run Tryd.prog (w.iter s p) = .ok (.tuple #[.bool true, .int .i64 (p : Int), .int .i32 ((decL (s.data.toList.drop p)).1 : Int)]) (w.iter s (p + (decL (s.data.toList.drop p)).2)) := by
  have := run_next_any (P := Tryd.prog) w s p ty h
  rw [decode_eq s p (by omega)] at this
  exact this
theorem drop_ne {s : ByteArray} {p : Nat} (h : p < s.size) : s.data.toList.drop p ≠ [] := by
  intro e
  have := congrArg List.length e
  rw [List.length_drop, Array.length_toList, List.length_nil] at this
  have e2 : s.data.size = s.size := rfl
  omega
theorem drop_all {s : ByteArray} {p : Nat} (h : ¬ p < s.size) : s.data.toList.drop p = [] := List.drop_eq_nil_of_le (by simp; omega)
theorem step_le {s : ByteArray} {p : Nat} (h : p < s.size) : p + (decL (s.data.toList.drop p)).2 ≤ s.size := by
  have := decL_le _ (drop_ne h)
  rw [List.length_drop, Array.length_toList] at this
  have e2 : s.data.size = s.size := rfl
  omega
end Go.Proofs.YtdehejadiofomaaDoor
