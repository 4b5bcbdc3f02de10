import Derived.Test.YtbfjpmbninlbbabGreatDoorM5
import Derived.Deep.QuietTactic
import Derived.BigQuiet
namespace Go.Proofs.YtbfjpmbninlbbabGreatDoor
open Go.RowKit
set_option linter.unusedVariables false
set_option linter.unusedSimpArgs false

/-- while letters are turned: what the new row holds -/
structure LetSt (w wr : World) (l : List UInt8) : Prop where
  row : ∃ (tail : List Value) (fr : Nat × Nat), wr.heap[w.heap.size]? = some (.cells (Lib.byteCells l ++ tail).toArray 5 fr) ∧ l.length ≤ fr.1
  below : Below w.heap.size w wr

theorem bc_len (l : List UInt8) : (Lib.byteCells l).length = l.length := by simp [Lib.byteCells]

theorem let_start (w : World) (s : ByteArray) : LetSt w (Lib.bytesWorld w 5 s) s.data.toList := by
  refine ⟨⟨List.replicate (grownCap w s.size 0 5 - s.size) (.int .u8 0), ((Lib.bytesCells w 5 s).size, (Lib.bytesCells w 5 s).size + 1), ?_, ?_⟩, Lib.bytesWorld_below w 5 s⟩
  · rw [Lib.bytesWorld_at_new]
    congr 2
    apply Array.ext'
    simp [Lib.bytesCells, Lib.byteCells]
  · simp [Lib.bytesCells]

theorem LetSt.cell {w wr : World} {l : List UInt8} (h : LetSt w wr l) (j : Nat) (hj : j < l.length) : wr.cell? ⟨w.heap.size, j, none⟩ = some (.int .u8 ((l.getD j 0).toNat : Int)) ∧ wr.frozen? ⟨w.heap.size, j, none⟩ = false := by
  obtain ⟨tail, fr, h1, h2⟩ := h.row
  constructor
  · rw [cell_of_row _ _ _ _ _ _ h1, List.getElem?_toArray, List.getElem?_append_left (by rw [bc_len]; exact hj)]
    simp [Lib.byteCells, hj]
  · simp only [World.frozen?, h1]
    simp
    omega

theorem LetSt.set {w wr : World} {l : List UInt8} (h : LetSt w wr l) (j : Nat) (c : UInt8) (hj : j < l.length) : LetSt w (wr.setCell ⟨w.heap.size, j, none⟩ (.int .u8 (c.toNat : Int))) (l.set j c) := by
  obtain ⟨tail, fr, h1, h2⟩ := h.row
  refine ⟨⟨tail, fr, ?_, by simpa using h2⟩, h.below.setCell (Nat.le_refl _) _⟩
  rw [setCell_eq_setRow _ _ _ _ _ _ _ h1, setRow_heap _ _ _ _ _ _ h1]
  congr 2
  rw [List.setIfInBounds_toArray, List.set_append_left _ _ (by rw [bc_len]; exact hj)]
  simp [Lib.byteCells, List.map_set]

/-- a letter in its other size -/
def turnB (a b : Nat) (c : UInt8) : UInt8 := if a ≤ c.toNat ∧ c.toNat ≤ b then UInt8.ofNat (c.toNat ^^^ 32) else c

set_option maxRecDepth 100000 in
theorem xor32 (c : Nat) (h : c < 256) : bits .xor .u8 (c : Int) 32 = (((UInt8.ofNat (c ^^^ 32)).toNat : Nat) : Int) := by
  have : ∀ c : Fin 256, bits .xor .u8 ((c.val : Nat) : Int) 32 = (((UInt8.ofNat (c.val ^^^ 32)).toNat : Nat) : Int) := by decide
  exact this ⟨c, h⟩

set_option maxRecDepth 100000 in
theorem xor32n (c : Nat) (h : c < 256) : (UInt8.ofNat (c ^^^ 32)).toNat = c ^^^ 32 := by
  have : ∀ c : Fin 256, (UInt8.ofNat (c.val ^^^ 32)).toNat = c.val ^^^ 32 := by decide
  exact this ⟨c, h⟩

theorem turn_step {l : List UInt8} {f : UInt8 → UInt8} {k : Nat} (h : k < l.length) : ((l.take k).map f ++ l.drop k).set k (f (l.getD k 0)) = (l.take (k + 1)).map f ++ l.drop (k + 1) := by
  have hg : l.getD k 0 = l[k] := by rw [List.getD_eq_getElem?_getD, List.getElem?_eq_getElem h]; rfl
  rw [List.drop_eq_getElem_cons h, List.set_append_right _ _ (by simp; omega), hg]
  have : k - ((l.take k).map f).length = 0 := by simp; omega
  rw [this, List.set_cons_zero, List.take_succ_eq_append_getElem h, List.map_append, List.append_assoc]
  rfl
theorem turn_at {l : List UInt8} {f : UInt8 → UInt8} {k : Nat} (h : k < l.length) : ((l.take k).map f ++ l.drop k).getD k 0 = l.getD k 0 := by
  rw [List.getD_eq_getElem?_getD, List.getElem?_append_right (by simp; omega)]
  have : k - ((l.take k).map f).length = 0 := by simp; omega
  rw [this, List.getElem?_drop]; simp
theorem turn_len {l : List UInt8} {f : UInt8 → UInt8} {k : Nat} (h : k ≤ l.length) : ((l.take k).map f ++ l.drop k).length = l.length := by simp; omega

set_option maxRecDepth 100000 in
set_option maxHeartbeats 1600000 in
theorem w_turned (s : ByteArray) (a b : Nat) (ha : a ≤ 255) (hb : b ≤ 255) (w : World) (hs : s.size ≤ 4611686018427387904) :
    Calls Tryz.prog 48 #[.string s, .int .u8 (a : Int), .int .u8 (b : Int)] w fun e w' => e = .returned (.string ⟨(s.data.toList.map (turnB a b)).toArray⟩) ∧ Below w.heap.size w w' := by
  have hcv := Lib.run_convert_string_bytes (P := Tryz.prog) w 9 55 5 s (u := .string) Tryz.underlying9 Tryz.underlying55 Tryz.underlying5
  have HS := Hid.mk (let_start w s)
  obtain ⟨W1, hW1⟩ : ∃ W1, W1 = Lib.bytesWorld w 5 s := ⟨_, rfl⟩
  rw [← hW1] at hcv HS
  obtain ⟨cap, hcap⟩ : ∃ cap, cap = grownCap w s.size 0 5 := ⟨_, rfl⟩
  rw [← hcap] at hcv
  clear hW1 hcap
  obtain ⟨l, hl⟩ : ∃ l, l = s.data.toList := ⟨_, rfl⟩
  have HL : Hid (l.length = s.size) := by show _ = _; rw [hl]; simp
  rw [← hl] at HS ⊢
  generalize hn : s.size = n at *
  clear hl hn
  go_enter Tryz.func48, Tryz.ntmps48
  go_wp2_with fail
  go_loopw [14] (fun i wr => ∃ k : Nat, k ≤ n ∧ i = .int .i64 k ∧ Hid (LetSt w wr ((l.take k).map (turnB a b) ++ l.drop k))) (fun i _ => n - (intOf i).toNat)
  case atStart => exact ⟨0, Nat.zero_le _, rfl, HS⟩
  case round =>
    obtain ⟨k, hk, rfl, HQ⟩ := hrel
    by_cases hlt : k < n
    · have hk1 : (k : Int) < (n : Int) := by omega
      have hkl : k < l.length := by rw [HL.out]; exact hlt
      obtain ⟨c1, f1⟩ := HQ.out.cell k (by rw [turn_len (by omega)]; exact hkl)
      rw [turn_at hkl] at c1
      obtain ⟨c, hc⟩ : ∃ c, c = l.getD k 0 := ⟨_, rfl⟩
      rw [← hc] at c1
      have h256 := c.toNat_lt
      have hx := xor32 c.toNat h256
      have HC := Hid.mk hc
      clear hc
      by_cases hin : a ≤ c.toNat ∧ c.toNat ≤ b
      · have HT : Hid (turnB a b c = UInt8.ofNat (c.toNat ^^^ 32)) := by show _ = _; unfold turnB; rw [if_pos hin]
        have HN : Hid (LetSt w (wr.setCell ⟨w.heap.size, k, none⟩ (.int .u8 ((c.toNat ^^^ 32 : Nat) : Int))) ((l.take (k + 1)).map (turnB a b) ++ l.drop (k + 1))) := by
          have := HQ.out.set k (turnB a b c) (by rw [turn_len (by omega)]; exact hkl)
          rw [HC.out, turn_step hkl, ← HC.out, HT.out, xor32n _ h256] at this
          exact this
        have i1 : (a : Int) ≤ (c.toNat : Int) := by omega
        have i2 : (c.toNat : Int) ≤ (b : Int) := by omega
        clear hin HQ hkl
        go_wp2_with fail
        go_roundw
        case measure => simp [intOf]; omega
        exact ⟨k + 1, by omega, by go_num, HN⟩
      · have HT : Hid (turnB a b c = c) := by show _ = _; unfold turnB; rw [if_neg hin]
        have HN : Hid (LetSt w wr ((l.take (k + 1)).map (turnB a b) ++ l.drop (k + 1))) := by
          have e : (l.take (k + 1)).map (turnB a b) ++ l.drop (k + 1) = (l.take k).map (turnB a b) ++ l.drop k := by
            rw [← turn_step hkl, ← HC.out, HT.out]
            have hg : ((l.take k).map (turnB a b) ++ l.drop k).getD k 0 = c := by rw [turn_at hkl, ← HC.out]
            have hlen : k < ((l.take k).map (turnB a b) ++ l.drop k).length := by rw [turn_len (by omega)]; exact hkl
            rw [List.getD_eq_getElem?_getD, List.getElem?_eq_getElem hlen] at hg
            have hg : ((l.take k).map (turnB a b) ++ l.drop k)[k] = c := hg
            rw [← hg, List.set_getElem_self]
          show LetSt _ _ _
          rw [e]
          exact HQ.out
        have hsp : ¬ (a : Int) ≤ (c.toNat : Int) ∨ ((a : Int) ≤ (c.toNat : Int) ∧ ¬ (c.toNat : Int) ≤ (b : Int)) := by omega
        clear hin HQ hkl
        rcases hsp with i1 | ⟨i1, i2⟩
        all_goals
          go_wp2_with fail
          go_roundw
          case measure => simp [intOf]; omega
          exact ⟨k + 1, by omega, by go_num, HN⟩
    · obtain rfl : k = n := by omega
      have hE : LetSt w wr (l.map (turnB a b)) := by
        have := HQ.out
        rw [List.take_of_length_le (by rw [HL.out]; exact Nat.le_refl _), List.drop_eq_nil_of_le (by rw [HL.out]; exact Nat.le_refl _), List.append_nil] at this
        exact this
      have hlen : (l.map (turnB a b)).length = k := by simp; exact HL.out
      have hcv2 := run_convert_bytes_back (P := Tryz.prog) wr 55 9 5 ⟨w.heap.size, 0, none⟩ cap (l.map (turnB a b)) Tryz.underlying55 Tryz.underlying5 Tryz.underlying9 (fun j hj => by
        have e : (⟨w.heap.size, 0, none⟩ : Addr).add j = ⟨w.heap.size, j, none⟩ := by
          unfold Addr.add; by_cases h0 : j = 0 <;> simp [h0]
        rw [e, (hE.cell j hj).1, List.getD_eq_getElem?_getD, List.getElem?_eq_getElem hj]; rfl)
      rw [hlen] at hcv2
      have HB := Hid.mk hE.below
      clear hE hlen HQ hlt
      go_wp2_with fail
      go_ret
      exact ⟨rfl, HB.out⟩

def low (s : ByteArray) : ByteArray := ⟨(s.data.toList.map (turnB 65 90)).toArray⟩
def upp (s : ByteArray) : ByteArray := ⟨(s.data.toList.map (turnB 97 122)).toArray⟩

set_option maxHeartbeats 400000 in
theorem w_Lower (s : ByteArray) (w : World) (hs : s.size ≤ 4611686018427387904) : Calls Tryz.prog 27 #[.string s] w fun e w' => e = .returned (.string (low s)) ∧ Below w.heap.size w w' := by
  have HT := Hid.mk (w_turned s 65 90 (by decide) (by decide) w hs)
  go_enter Tryz.func27, Tryz.ntmps27
  go_wp2_with fail
  refine (show Calls _ _ _ _ _ from HT.out).mono ?_
  rintro e w1 ⟨rfl, hb⟩
  have HB := Hid.mk hb
  clear hb
  go_wp2_with fail
  go_ret
  exact ⟨rfl, HB.out⟩
set_option maxHeartbeats 400000 in
theorem w_Upper (s : ByteArray) (w : World) (hs : s.size ≤ 4611686018427387904) : Calls Tryz.prog 29 #[.string s] w fun e w' => e = .returned (.string (upp s)) ∧ Below w.heap.size w w' := by
  have HT := Hid.mk (w_turned s 97 122 (by decide) (by decide) w hs)
  go_enter Tryz.func29, Tryz.ntmps29
  go_wp2_with fail
  refine (show Calls _ _ _ _ _ from HT.out).mono ?_
  rintro e w1 ⟨rfl, hb⟩
  have HB := Hid.mk hb
  clear hb
  go_wp2_with fail
  go_ret
  exact ⟨rfl, HB.out⟩

theorem low_size (s : ByteArray) : (low s).size = s.size := by
  show ((s.data.toList.map (turnB 65 90)).toArray).size = s.data.size
  rw [List.size_toArray, List.length_map, Array.length_toList]
theorem upp_size (s : ByteArray) : (upp s).size = s.size := by
  show ((s.data.toList.map (turnB 97 122)).toArray).size = s.data.size
  rw [List.size_toArray, List.length_map, Array.length_toList]
theorem low_at (s : ByteArray) (k : Nat) (h : k < (low s).size) (h' : k < s.size) : (low s)[k]'h = turnB 65 90 (s[k]'h') := by
  have hl : k < (s.data.toList.map (turnB 65 90)).length := by rw [List.length_map, Array.length_toList]; exact h'
  have e : (low s)[k]'h = (s.data.toList.map (turnB 65 90))[k]'hl := rfl
  rw [e, List.getElem_map]; rfl
theorem upp_at (s : ByteArray) (k : Nat) (h : k < (upp s).size) (h' : k < s.size) : (upp s)[k]'h = turnB 97 122 (s[k]'h') := by
  have hl : k < (s.data.toList.map (turnB 97 122)).length := by rw [List.length_map, Array.length_toList]; exact h'
  have e : (upp s)[k]'h = (s.data.toList.map (turnB 97 122))[k]'hl := rfl
  rw [e, List.getElem_map]; rfl

theorem turn_all (P : UInt8 → Prop) (h : ∀ i : Fin 256, P (UInt8.ofNat i.val)) (c : UInt8) : P c := by
  have := h ⟨c.toNat, c.toNat_lt⟩
  simpa using this
set_option maxRecDepth 100000 in
theorem low_upp_c (c : UInt8) : turnB 65 90 (turnB 97 122 c) = turnB 65 90 c := turn_all (fun c => turnB 65 90 (turnB 97 122 c) = turnB 65 90 c) (by decide) c
set_option maxRecDepth 100000 in
theorem upp_low_c (c : UInt8) : turnB 97 122 (turnB 65 90 c) = turnB 97 122 c := turn_all (fun c => turnB 97 122 (turnB 65 90 c) = turnB 97 122 c) (by decide) c
theorem low_upp (s : ByteArray) : low (upp s) = low s := by
  unfold low upp
  congr 2
  simp [low_upp_c]
theorem upp_low (s : ByteArray) : upp (low s) = upp s := by
  unfold low upp
  congr 2
  simp [upp_low_c]
set_option maxRecDepth 100000 in
theorem turn_cases (c : UInt8) : (97 ≤ c.toNat ∧ c.toNat ≤ 122 ∧ (turnB 65 90 c).toNat = c.toNat ∧ (turnB 97 122 c).toNat ≠ c.toNat) ∨ (65 ≤ c.toNat ∧ c.toNat ≤ 90 ∧ (turnB 65 90 c).toNat ≠ c.toNat ∧ (turnB 97 122 c).toNat = c.toNat) ∨ (¬ (97 ≤ c.toNat ∧ c.toNat ≤ 122) ∧ ¬ (65 ≤ c.toNat ∧ c.toNat ≤ 90) ∧ (turnB 65 90 c).toNat = c.toNat ∧ (turnB 97 122 c).toNat = c.toNat) := turn_all (fun c => (97 ≤ c.toNat ∧ c.toNat ≤ 122 ∧ (turnB 65 90 c).toNat = c.toNat ∧ (turnB 97 122 c).toNat ≠ c.toNat) ∨ (65 ≤ c.toNat ∧ c.toNat ≤ 90 ∧ (turnB 65 90 c).toNat ≠ c.toNat ∧ (turnB 97 122 c).toNat = c.toNat) ∨ (¬ (97 ≤ c.toNat ∧ c.toNat ≤ 122) ∧ ¬ (65 ≤ c.toNat ∧ c.toNat ≤ 90) ∧ (turnB 65 90 c).toNat = c.toNat ∧ (turnB 97 122 c).toNat = c.toNat)) (by decide) c
end Go.Proofs.YtbfjpmbninlbbabGreatDoor
