import Derived.Test.YtdehejadiofomaaDoorZD16
import Derived.Test.YtdehejadiofomaaDoorZD18
namespace Go.Proofs.YtdehejadiofomaaDoor
open Go.RowKit Go.Shelf
set_option linter.unusedVariables false
set_option linter.unusedSimpArgs false
attribute [local go_sem] Oper.semAt_some

theorem below_row {wr w1 : World} {base : Nat} {e : TypeId} {size : Nat} {v : Value} {n : Nat} {xs : List Value} (hb : Below wr.heap.size wr w1) (h : wr.ownsRow base e size v n xs) : w1.ownsRow base e size v n xs := by
  refine ⟨h.1, h.2.imp id ?_⟩
  rintro ⟨g, cap, cur, rfl, e2, e3, rest⟩
  exact ⟨g, cap, cur, rfl, e2, heap_lowT hb (Array.getElem?_eq_some_iff.1 e3).1 e3, rest⟩
theorem heapN (w : World) (n : Nat) : (w.drewN n).heap = w.heap := by
  induction n generalizing w with
  | zero => rfl
  | succ n ih => exact (ih _).trans rfl
theorem sizeN (w : World) (n : Nat) : (w.drewN n).heap.size = w.heap.size := by rw [heapN]
theorem cellN (w : World) (n : Nat) (a : Addr) : (w.drewN n).cell? a = w.cell? a := by
  unfold World.cell?; rw [heapN]
theorem belowN {b : Nat} {w w' : World} (h : Below b w w') (n : Nat) : Below b w (w'.drewN n) := by
  induction n generalizing w' with
  | zero => exact h
  | succ n ih => exact (ih h).drew
theorem ownsN {w : World} {base : Nat} {e : TypeId} {size : Nat} {v : Value} {n : Nat} {xs : List Value} (h : w.ownsRow base e size v n xs) (k : Nat) : (w.drewN k).ownsRow base e size v n xs := by
  refine ⟨h.1, h.2.imp id ?_⟩
  rintro ⟨g, cap, cur, rfl, e2, e3, rest⟩
  exact ⟨g, cap, cur, rfl, e2, by rw [heapN]; exact e3, rest⟩
theorem own_ltT {w : World} {base : Nat} {e : TypeId} {size : Nat} {v : Value} {n : Nat} {xs : List Value} (h : w.ownsRow base e size v n xs) : ∀ b, v.ownBlock = some b → b < w.heap.size := by
  intro b hb
  rcases h.2 with ⟨rfl, _⟩ | ⟨g', cap, cur, rfl, e2, e3, _⟩
  · cases hb
  · simp [Value.ownBlock] at hb
    subst hb
    exact (Array.getElem?_eq_some_iff.1 e3).1
theorem own_setT {w : World} {base : Nat} {e : TypeId} {size : Nat} {v : Value} {n : Nat} {xs : List Value} (h : w.ownsRow base e size v n xs) {a : Addr} {u : Value} (hne : v.ownBlock ≠ some a.block) : (w.setCell a u).ownsRow base e size v n xs := by
  refine ⟨h.1, ?_⟩
  rcases h.2 with h | ⟨g', cap, cur, rfl, e2, e3, rest⟩
  · exact .inl h
  · refine .inr ⟨g', cap, cur, rfl, e2, (Below.heap_setCell _ _ _ _ (fun e => hne ?_)).trans e3, rest⟩
    rw [← e]; rfl
theorem one_byte (c : UInt8) : (⟨#[c]⟩ : ByteArray).data.toList = [c] := rfl
theorem blk_step (B : ByteArray) (n : Nat) (c : UInt8) (h : B.data.toList = blk n) (hc : c = cBl.getD (n % 4) 0) : (B ++ ⟨#[c]⟩).data.toList = blk (n + 1) := by
  rw [ByteArray.data_append, Array.toList_append, h, blk, hc]

theorem conv1 (c : UInt8) (w : World) : (convert 42 9 (.slice (some ⟨w.heap.size, 0, none⟩) 1 1)).run Tryd.prog (w.alloc (.cells #[.int .u8 (c.toNat : Int)] 5)) = .ok (.string ⟨#[c]⟩) (w.alloc (.cells #[.int .u8 (c.toNat : Int)] 5)) := by
  have h := run_convert_bytes_back (P := Tryd.prog) (w.alloc (.cells #[.int .u8 (c.toNat : Int)] 5)) 42 9 5 ⟨w.heap.size, 0, none⟩ 1 [c] Tryd.underlying42 Tryd.underlying5 Tryd.underlying9 (by
    intro j hj
    have hj6 : j < 1 := hj
    obtain rfl : j = 0 := by omega
    simp [Addr.add, go_sem])
  exact h
theorem four_byte (k : Nat) (h : k % 4 < 4) : (⟨#[32, 9, 10, 13]⟩ : ByteArray)[k % 4]'h = cBl.getD (k % 4) 0 := by
  generalize k % 4 = j at h
  rcases (show j = 0 ∨ j = 1 ∨ j = 2 ∨ j = 3 by omega) with rfl | rfl | rfl | rfl <;> rfl

set_option maxRecDepth 100000 in
set_option maxHeartbeats 1600000 in
theorem w_blanks (z : Int) (n : Nat) (w : World) (hz : z = (n : Int)) (hn : n ≤ 11) :
    Calls Tryd.prog 10 #[.int .i64 z] w fun e w' => ∃ B : ByteArray, e = .returned (.string B) ∧ Hid (B.data.toList = blk n) ∧ Below w.heap.size w w' := by
  subst hz
  go_enter Tryd.func10, Tryd.ntmps10
  go_wp2_with fail
  go_loopw [3, 4] (fun s i wr => ∃ (k : Nat) (B : ByteArray), k ≤ n ∧ s = .string B ∧ i = .int .i64 (k : Int) ∧ Hid (B.data.toList = blk k) ∧ Hid (Below w.heap.size w wr)) (fun _ i _ => n - (intOf i).toNat)
  case atStart => exact ⟨0, ⟨#[]⟩, Nat.zero_le _, rfl, rfl, rfl, Below.refl _ _⟩
  case round =>
    obtain ⟨k, B, hk, rfl, rfl, HB, HW⟩ := hrel
    by_cases hlt : k < n
    · have hi1 : (k : Int) < (n : Int) := by omega
      have hi0 : (0 : Int) ≤ (k : Int) := by omega
      have hBs : B.size ≤ 11 := by rw [← size_lst, HB.out, blk_len]; omega
      have hB1 : (⟨#[(⟨#[32, 9, 10, 13]⟩ : ByteArray)[k % 4]'(Nat.mod_lt _ (by decide))]⟩ : ByteArray).size = 1 := rfl
      have hcv := conv1 ((⟨#[32, 9, 10, 13]⟩ : ByteArray)[k % 4]'(Nat.mod_lt _ (by decide))) wr
      have HS : Hid ((B ++ ⟨#[(⟨#[32, 9, 10, 13]⟩ : ByteArray)[k % 4]'(Nat.mod_lt _ (by decide))]⟩).data.toList = blk (k + 1)) := blk_step B k _ HB.out (four_byte k _)
      have HW2 : Hid (Below w.heap.size w (wr.alloc (.cells #[.int .u8 (((⟨#[32, 9, 10, 13]⟩ : ByteArray)[k % 4]'(Nat.mod_lt _ (by decide))).toNat : Int)] 5))) := HW.out.alloc HW.out.size _
      go_wp2_with fail
      go_roundw
      case rel => exact ⟨k + 1, _, by omega, rfl, by go_num, HS, HW2⟩
      case measure => simp [intOf]; omega
    · have hi1 : ¬ (k : Int) < (n : Int) := by omega
      obtain rfl : k = n := by omega
      go_wp2_with fail
      go_ret
      exact ⟨B, rfl, HB, HW.out⟩
end Go.Proofs.YtdehejadiofomaaDoor
