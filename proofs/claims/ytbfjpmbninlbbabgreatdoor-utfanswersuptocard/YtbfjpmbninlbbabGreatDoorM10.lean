import Derived.Test.YtbfjpmbninlbbabGreatDoorM9
namespace Go.Proofs.YtbfjpmbninlbbabGreatDoor
open Go.RowKit
set_option linter.unusedVariables false
set_option linter.unusedSimpArgs false

/-- a row of bytes, all of it used -/
def BRow (w : World) (g : Nat) (l : List UInt8) : Prop := w.heap[g]? = some (.cells (Lib.byteCells l).toArray 5 (0, 0))
theorem BRow.set {w : World} {g : Nat} {l : List UInt8} (h : BRow w g l) (i : Nat) (c : UInt8) (z : Int) (hz : z = (c.toNat : Int)) (hi : i < l.length) : BRow (w.setCell ⟨g, i, none⟩ (.int .u8 z)) g (l.set i c) := by
  unfold BRow at *
  subst hz
  rw [heap_setCell_same w g i _ _ _ h]
  congr 2
  rw [List.setIfInBounds_toArray]
  simp [Lib.byteCells, List.map_set]
theorem BRow.lt {w : World} {g : Nat} {l : List UInt8} (h : BRow w g l) : g < w.heap.size := (Array.getElem?_eq_some_iff.1 h).1
theorem BRow.free {w : World} {g : Nat} {l : List UInt8} (h : BRow w g l) (i : Nat) : w.frozen? ⟨g, i, none⟩ = false := frozen_of_row w g i _ _ h
theorem BRow.cell {w : World} {g : Nat} {l : List UInt8} (h : BRow w g l) (i : Nat) (hi : i < l.length) : w.cell? ⟨g, i, none⟩ = some (.int .u8 ((l.getD i 0).toNat : Int)) := by
  rw [cell_of_row w g i _ _ _ h]
  simp [Lib.byteCells, hi]

theorem bmade (m : Nat) : madeCells #[.int .u8 0] m = (Lib.byteCells (List.replicate m 0)).toArray := by
  unfold madeCells Lib.byteCells
  apply Array.ext
  · simp
  · intro i h1 h2
    have e : i % 1 = 0 := by omega
    simp [e]
theorem brow_new (w : World) (m : Nat) : BRow (w.alloc (brow m)) w.heap.size (List.replicate m 0) := by
  have h := heap_alloc_new w (brow m)
  unfold BRow
  rw [h]
  unfold brow
  rw [bmade]
theorem run_make_brow (m : Nat) (z : Int) (hz : z = (m : Int)) (hn : m ≤ 140737488355328) (u : World) : (Instr.makeSlice 55 (.int .i64 z) (.int .i64 z)).run Tryz.prog u = .ok (.slice (some ⟨u.heap.size, 0, none⟩) m m) (u.alloc (brow m)) := by
  subst hz
  obtain ⟨i0, hi, hz0, hz1, hz2⟩ := info_parts Tryz.infoB
  have h := run_make (P := Tryz.prog) u 55 5 i0 (.int .u8 0) Tryz.underlying55 hi hz0 .i64 .i64 (m : Int) (m : Int) (by omega) (Int.le_refl _) (by rw [hz2]; omega) (by omega)
  have e : ((m : Int)).toNat = m := by omega
  rw [e] at h
  simpa [hz1, Value.cells, brow] using h

/-- a call that answers a new row of bytes -/
def BytesR (w w' : World) (e : Ending) (l : List UInt8) : Prop := ∃ g, e = .returned (.slice (some ⟨g, 0, none⟩) l.length l.length) ∧ w.heap.size ≤ g ∧ Hid (BRow w' g l) ∧ Below w.heap.size w w'

set_option maxRecDepth 100000 in
set_option maxHeartbeats 1600000 in
theorem w_Encoding1 (n : Nat) (w : World) (h1 : n < 0x80) :
    Calls Tryz.prog 43 #[.int .i64 (n : Int)] w fun e w' => BytesR w w' e (enc n) := by
  have he : enc n = [UInt8.ofNat n] := by unfold enc; rw [if_pos h1]
  have HI := Hid.mk (fun u => w_IsRune (n : Int) u)
  rw [show Lib.validRune (n : Int) = true from decide_eq_true (by omega)] at HI
  have HS := Hid.mk (fun u => w_Size n u (by omega))
  rw [he] at HS
  rw [show (([UInt8.ofNat n].length : Nat) : Int) = 1 from rfl] at HS
  have HBR : ∀ z : Int, z = (n : Int) → BRow (w.alloc (.cells #[.int .u8 z] 5)) w.heap.size [UInt8.ofNat n] := by
    intro z hz
    have h := heap_alloc_new w (.cells #[.int .u8 z] 5)
    unfold BRow
    rw [h, hz]
    have e : (UInt8.ofNat n).toNat = n := ofNat_small (by omega)
    simp [Lib.byteCells, e]
  have HBH := Hid.mk HBR
  have hn1 : (n : Int) < 128 := by omega
  unfold BytesR
  rw [he]
  clear HBR he
  go_enter Tryz.func43, Tryz.ntmps43
  go_wp2_with fail
  refine (HI.out _).mono ?_
  rintro e w1 ⟨rfl, hw⟩
  obtain rfl := hw.symm
  go_wp2_with fail
  refine (HS.out _).mono ?_
  rintro e w1 ⟨rfl, hw⟩
  obtain rfl := hw.symm
  go_wp2_with fail
  go_ret
  exact ⟨_, rfl, Nat.le_refl _, HBH.out _ (by first | rfl | omega), below1 w _⟩


set_option maxRecDepth 100000 in
set_option maxHeartbeats 1600000 in
theorem w_Encoding2 (n : Nat) (w : World) (h1 : ¬ n < 0x80) (h2 : n < 0x800) :
    Calls Tryz.prog 43 #[.int .i64 (n : Int)] w fun e w' => BytesR w w' e (enc n) := by
  have he : enc n = [UInt8.ofNat (0xC0 + n / 64), UInt8.ofNat (0x80 + n % 64)] := by unfold enc; rw [if_neg h1, if_pos h2]
  have HI := Hid.mk (fun u => w_IsRune (n : Int) u)
  rw [show Lib.validRune (n : Int) = true from decide_eq_true (by omega)] at HI
  have HS := Hid.mk (fun u => w_Size n u (by omega))
  rw [he] at HS
  rw [show (([UInt8.ofNat (0xC0 + n / 64), UInt8.ofNat (0x80 + n % 64)].length : Nat) : Int) = 2 from rfl] at HS
  have hmk := fun (u : World) => run_make_brow 2 2 rfl (by decide) u
  have hb0 : BRow (w.alloc (brow 2)) w.heap.size [0, 0] := brow_new w 2
  have hf0 := fun i => hb0.free i
  have hcl0 := hb0.cell 0 (by decide)
  have hcl1 := hb0.cell 1 (by decide)
  unfold BytesR
  rw [he]
  have hn1 : ¬ (n : Int) < 128 := by omega
  have hn2 : (n : Int) < 2048 := by omega
  have HB0 := Hid.mk hb0
  clear he hb0
  go_enter Tryz.func43, Tryz.ntmps43
  go_wp2_with fail
  refine (HI.out _).mono ?_
  rintro e w1 ⟨rfl, hw⟩
  obtain rfl := hw.symm
  go_wp2_with fail
  refine (HS.out _).mono ?_
  rintro e w1 ⟨rfl, hw⟩
  obtain rfl := hw.symm
  go_wp2_with fail
  refine wp_loop_rounds 2 ?_
  rw [rounds_succ]
  go_wp2_with fail
  rw [rounds_succ]
  go_wp2_with fail
  go_ret
  have hb0 := HB0.out
  exact ⟨_, rfl, Nat.le_refl _, ((hb0.set 1 (UInt8.ofNat (0x80 + n % 64)) _ (by rw [ofNat_small (by omega)]; omega) (by simp)).set 0 (UInt8.ofNat (0xC0 + n / 64)) _ (by rw [ofNat_small (by omega)]; omega) (by simp)), (((below1 w (brow 2)).setCell (Nat.le_refl _) _).setCell (Nat.le_refl _) _)⟩

set_option maxRecDepth 100000 in
set_option maxHeartbeats 1600000 in
theorem w_Encoding3 (n : Nat) (w : World) (h1 : ¬ n < 0x80) (h2 : ¬ n < 0x800) (h3 : n < 0x10000) (hR : isR n) :
    Calls Tryz.prog 43 #[.int .i64 (n : Int)] w fun e w' => BytesR w w' e (enc n) := by
  unfold isR at hR
  have he : enc n = [UInt8.ofNat (0xE0 + n / 4096), UInt8.ofNat (0x80 + n / 64 % 64), UInt8.ofNat (0x80 + n % 64)] := by unfold enc; rw [if_neg h1, if_neg h2, if_pos h3]
  have HI := Hid.mk (fun u => w_IsRune (n : Int) u)
  rw [show Lib.validRune (n : Int) = true from decide_eq_true (by omega)] at HI
  have HS := Hid.mk (fun u => w_Size n u (by omega))
  rw [he] at HS
  rw [show (([UInt8.ofNat (0xE0 + n / 4096), UInt8.ofNat (0x80 + n / 64 % 64), UInt8.ofNat (0x80 + n % 64)].length : Nat) : Int) = 3 from rfl] at HS
  have hmk := fun (u : World) => run_make_brow 3 3 rfl (by decide) u
  have hb0 : BRow (w.alloc (brow 3)) w.heap.size [0, 0, 0] := brow_new w 3
  have hf0 := fun i => hb0.free i
  have hcl0 := hb0.cell 0 (by decide)
  have hcl1 := hb0.cell 1 (by decide)
  have hcl2 := hb0.cell 2 (by decide)
  unfold BytesR
  rw [he]
  have hn1 : ¬ (n : Int) < 128 := by omega
  have hn2 : ¬ (n : Int) < 2048 := by omega
  have hn3 : (n : Int) < 65536 := by omega
  have HB0 := Hid.mk hb0
  clear he hb0
  go_enter Tryz.func43, Tryz.ntmps43
  go_wp2_with fail
  refine (HI.out _).mono ?_
  rintro e w1 ⟨rfl, hw⟩
  obtain rfl := hw.symm
  go_wp2_with fail
  refine (HS.out _).mono ?_
  rintro e w1 ⟨rfl, hw⟩
  obtain rfl := hw.symm
  go_wp2_with fail
  refine wp_loop_rounds 3 ?_
  rw [rounds_succ]
  go_wp2_with fail
  rw [rounds_succ]
  go_wp2_with fail
  rw [rounds_succ]
  go_wp2_with fail
  go_ret
  have hb0 := HB0.out
  exact ⟨_, rfl, Nat.le_refl _, (((hb0.set 2 (UInt8.ofNat (0x80 + n % 64)) _ (by rw [ofNat_small (by omega)]; omega) (by simp)).set 1 (UInt8.ofNat (0x80 + n / 64 % 64)) _ (by rw [ofNat_small (by omega)]; omega) (by simp)).set 0 (UInt8.ofNat (0xE0 + n / 4096)) _ (by rw [ofNat_small (by omega)]; omega) (by simp)), ((((below1 w (brow 3)).setCell (Nat.le_refl _) _).setCell (Nat.le_refl _) _).setCell (Nat.le_refl _) _)⟩

set_option maxRecDepth 100000 in
set_option maxHeartbeats 1600000 in
theorem w_Encoding4 (n : Nat) (w : World) (h1 : ¬ n < 0x80) (h2 : ¬ n < 0x800) (h3 : ¬ n < 0x10000) (hR : isR n) :
    Calls Tryz.prog 43 #[.int .i64 (n : Int)] w fun e w' => BytesR w w' e (enc n) := by
  unfold isR at hR
  have he : enc n = [UInt8.ofNat (0xF0 + n / 262144), UInt8.ofNat (0x80 + n / 4096 % 64), UInt8.ofNat (0x80 + n / 64 % 64), UInt8.ofNat (0x80 + n % 64)] := by unfold enc; rw [if_neg h1, if_neg h2, if_neg h3]
  have HI := Hid.mk (fun u => w_IsRune (n : Int) u)
  rw [show Lib.validRune (n : Int) = true from decide_eq_true (by omega)] at HI
  have HS := Hid.mk (fun u => w_Size n u (by omega))
  rw [he] at HS
  rw [show (([UInt8.ofNat (0xF0 + n / 262144), UInt8.ofNat (0x80 + n / 4096 % 64), UInt8.ofNat (0x80 + n / 64 % 64), UInt8.ofNat (0x80 + n % 64)].length : Nat) : Int) = 4 from rfl] at HS
  have hmk := fun (u : World) => run_make_brow 4 4 rfl (by decide) u
  have hb0 : BRow (w.alloc (brow 4)) w.heap.size [0, 0, 0, 0] := brow_new w 4
  have hf0 := fun i => hb0.free i
  have hcl0 := hb0.cell 0 (by decide)
  have hcl1 := hb0.cell 1 (by decide)
  have hcl2 := hb0.cell 2 (by decide)
  have hcl3 := hb0.cell 3 (by decide)
  unfold BytesR
  rw [he]
  have hn1 : ¬ (n : Int) < 128 := by omega
  have hn2 : ¬ (n : Int) < 2048 := by omega
  have hn3 : ¬ (n : Int) < 65536 := by omega
  have hn4 : (n : Int) ≤ 1114111 := by omega
  have HB0 := Hid.mk hb0
  clear he hb0
  go_enter Tryz.func43, Tryz.ntmps43
  go_wp2_with fail
  refine (HI.out _).mono ?_
  rintro e w1 ⟨rfl, hw⟩
  obtain rfl := hw.symm
  go_wp2_with fail
  refine (HS.out _).mono ?_
  rintro e w1 ⟨rfl, hw⟩
  obtain rfl := hw.symm
  go_wp2_with fail
  refine wp_loop_rounds 4 ?_
  rw [rounds_succ]
  go_wp2_with fail
  rw [rounds_succ]
  go_wp2_with fail
  rw [rounds_succ]
  go_wp2_with fail
  rw [rounds_succ]
  go_wp2_with fail
  go_ret
  have hb0 := HB0.out
  exact ⟨_, rfl, Nat.le_refl _, ((((hb0.set 3 (UInt8.ofNat (0x80 + n % 64)) _ (by rw [ofNat_small (by omega)]; omega) (by simp)).set 2 (UInt8.ofNat (0x80 + n / 64 % 64)) _ (by rw [ofNat_small (by omega)]; omega) (by simp)).set 1 (UInt8.ofNat (0x80 + n / 4096 % 64)) _ (by rw [ofNat_small (by omega)]; omega) (by simp)).set 0 (UInt8.ofNat (0xF0 + n / 262144)) _ (by rw [ofNat_small (by omega)]; omega) (by simp)), (((((below1 w (brow 4)).setCell (Nat.le_refl _) _).setCell (Nat.le_refl _) _).setCell (Nat.le_refl _) _).setCell (Nat.le_refl _) _)⟩
end Go.Proofs.YtbfjpmbninlbbabGreatDoor
namespace Go.Proofs.YtbfjpmbninlbbabGreatDoor
open Go.RowKit
set_option linter.unusedVariables false
set_option linter.unusedSimpArgs false

set_option maxRecDepth 100000 in
set_option maxHeartbeats 1600000 in
theorem w_EncodingBad (z : Int) (w : World) (hz : Lib.validRune z = false) :
    Calls Tryz.prog 43 #[.int .i64 z] w fun e w' => BytesR w w' e [239, 191, 189] := by
  have HI := Hid.mk (fun u => w_IsRune z u)
  rw [hz] at HI
  have HS := Hid.mk (fun u => w_Size 65533 u (by omega))
  rw [enc_err, show (([239, 191, 189] : List UInt8).length : Int) = 3 from rfl, show ((65533 : Nat) : Int) = 65533 from rfl] at HS
  have hmk := fun (u : World) => run_make_brow 3 3 rfl (by decide) u
  have hb0 : BRow (w.alloc (brow 3)) w.heap.size [0, 0, 0] := brow_new w 3
  have hf0 := fun i => hb0.free i
  have hcl0 := hb0.cell 0 (by decide)
  have hcl1 := hb0.cell 1 (by decide)
  have hcl2 := hb0.cell 2 (by decide)
  unfold BytesR
  have HB0 := Hid.mk hb0
  clear hb0 hz
  go_enter Tryz.func43, Tryz.ntmps43
  go_wp2_with fail
  refine (HI.out _).mono ?_
  rintro e w1 ⟨rfl, hw⟩
  obtain rfl := hw.symm
  go_wp2_with fail
  refine (HS.out _).mono ?_
  rintro e w1 ⟨rfl, hw⟩
  obtain rfl := hw.symm
  go_wp2_with fail
  refine wp_loop_rounds 3 ?_
  rw [rounds_succ]
  go_wp2_with fail
  rw [rounds_succ]
  go_wp2_with fail
  rw [rounds_succ]
  go_wp2_with fail
  go_ret
  have hb0 := HB0.out
  exact ⟨_, rfl, Nat.le_refl _, (((hb0.set 2 189 _ (by decide) (by simp)).set 1 191 _ (by decide) (by simp)).set 0 239 _ (by decide) (by simp)), ((((below1 w (brow 3)).setCell (Nat.le_refl _) _).setCell (Nat.le_refl _) _).setCell (Nat.le_refl _) _)⟩

theorem w_Encoding (z : Int) (w : World) :
    Calls Tryz.prog 43 #[.int .i64 z] w fun e w' => BytesR w w' e (enc (rn z)) := by
  cases hv : Lib.validRune z with
  | false =>
    have e : rn z = 65533 := by unfold rn; rw [hv]; rfl
    rw [e, enc_err]
    exact w_EncodingBad z w hv
  | true =>
    have hv' : decide ((0 ≤ z ∧ z < 0xD800) ∨ (0xDFFF < z ∧ z ≤ 0x10FFFF)) = true := hv
    have h := of_decide_eq_true hv'
    have e : rn z = z.toNat := by unfold rn; rw [hv]; rfl
    have hR := rn_isR z
    have ez : z = ((rn z : Nat) : Int) := by rw [e]; omega
    generalize rn z = n at *
    subst ez
    by_cases h1 : n < 0x80
    · exact w_Encoding1 n w h1
    by_cases h2 : n < 0x800
    · exact w_Encoding2 n w h1 h2
    by_cases h3 : n < 0x10000
    · exact w_Encoding3 n w h1 h2 h3 hR
    · exact w_Encoding4 n w h1 h2 h3 hR
end Go.Proofs.YtbfjpmbninlbbabGreatDoor
namespace Go.Proofs.YtbfjpmbninlbbabGreatDoor
open Go.RowKit
set_option linter.unusedVariables false
set_option linter.unusedSimpArgs false

theorem conv_zero' (w : World) (p : Option Addr) (c : Nat) : (convert 55 9 (.slice p 0 c)).run Tryz.prog w = .ok (.string ByteArray.empty) w := by
  rw [run_convert_bytes_string w 55 9 5 _ 0 c Tryz.underlying55 Tryz.underlying5 Tryz.underlying9]
  cases p <;> simp [Conv.bytesToString, loadCells]
  all_goals rfl
theorem conv_own' {wr : World} {base n : Nat} {l : List UInt8} {ao : Option Addr} {cap : Nat} (h1 : l.length = n) (h3 : wr.ownsRow base 5 1 (.slice ao n cap) n (Lib.byteCells l)) : (convert 55 9 (.slice ao n cap)).run Tryz.prog wr = .ok (.string ⟨l.toArray⟩) wr := by
  by_cases hn : 0 < n
  · obtain ⟨g, cap', hv⟩ := own_some h3 hn
    cases hv
    exact bytes_conv h1 h3
  · have e : n = 0 := by omega
    subst e
    have e2 : l = [] := List.eq_nil_of_length_eq_zero h1
    subst e2
    exact conv_zero' wr ao cap

theorem own_below' {w w1 : World} {B e size n : Nat} {v : Value} {xs : List Value} (h : w.ownsRow B e size v n xs) (hb : Below w.heap.size w w1) : w1.ownsRow B e size v n xs := by
  refine ⟨h.1, ?_⟩
  rcases h.2 with h0 | ⟨g, cap, cur, hv, hb', hg, rest⟩
  · exact .inl h0
  · refine .inr ⟨g, cap, cur, hv, hb', ?_, rest⟩
    rw [hb.block g (Array.getElem?_eq_some_iff.1 hg).1]
    exact hg
def rtxt (xs : List Int) : List UInt8 := xs.flatMap fun x => enc (rn x)
/-- while the reference writes -/
structure TxSt (w wr : World) (v : Value) (n : Nat) (xs : List Int) (k : Nat) : Prop where
  own : (rtxt (xs.take k)).length = n ∧ wr.ownsRow w.heap.size 5 1 v n (Lib.byteCells (rtxt (xs.take k)))
  below : Below w.heap.size w wr

set_option maxRecDepth 100000 in
set_option maxHeartbeats 1600000 in
theorem w_refText (v : Value) (xs : List Int) (w : World) (hv : Ints .i64 w v xs) (hl : xs.length ≤ 274877906944) :
    Calls Tryz.prog 18 #[v] w fun e w' => e = .returned (.string ⟨(rtxt xs).toArray⟩) ∧ Below w.heap.size w w' := by
  obtain ⟨i0, hi0, hz0, hz1, hz2⟩ := info_parts Tryz.infoB
  obtain ⟨ao, cap, rfl, hc, hx⟩ := hv
  have HX := Hid.mk hx
  obtain ⟨N, hN⟩ : ∃ N, xs.length = N := ⟨_, rfl⟩
  have HN := Hid.mk hN
  rw [hN] at hc hl ⊢
  have HS : Hid (TxSt w (w.alloc (.cells #[] 5)) (.slice (some ⟨w.heap.size, 0, none⟩) 0 0) 0 xs 0) := ⟨⟨rfl, own_empty w 5⟩, (Below.refl _ _).alloc (Nat.le_refl _) _⟩
  clear hx hN
  go_enter Tryz.func18, Tryz.ntmps18
  go_wp2_with fail
  go_loopw [3, 4] (fun l i wr => ∃ (k n : Nat) (so : Option Addr) (sc : Nat), k ≤ N ∧ n ≤ 4 * k ∧ l = .slice so n sc ∧ i = .int .i64 k ∧ Hid (TxSt w wr (.slice so n sc) n xs k)) (fun _ i _ => N - (intOf i).toNat)
  case atStart => exact ⟨0, 0, _, 0, Nat.zero_le _, by omega, rfl, rfl, HS⟩
  case round =>
    obtain ⟨k, n, so, sc, hk, hn4, rfl, rfl, HQ⟩ := hrel
    by_cases hlt : k < N
    · have hk1 : (k : Int) < (N : Int) := by omega
      have hkx : k < xs.length := by rw [HN.out]; exact hlt
      obtain ⟨b, off, rfl, hb, hcell⟩ := HX.out (by omega)
      obtain ⟨x, hxx⟩ : ∃ x, x = xs.getD k 0 := ⟨_, rfl⟩
      have hcx : wr.cell? ⟨b, off + k, none⟩ = some (.int .i64 x) := by
        rw [hxx]; exact (HQ.out.below.cell (p := ⟨b, off + k, none⟩) hb).trans (hcell k hkx)
      have HE := Hid.mk (w_Encoding x wr)
      have HT : Hid (rtxt (xs.take (k + 1)) = rtxt (xs.take k) ++ enc (rn x)) := by
        show _ = _
        rw [take_isnoc xs k hkx, ← hxx]; simp [rtxt]
      have hel := enc_len (rn x)
      clear hcell hxx hkx
      go_wp2_with fail
      refine HE.out.mono ?_
      rintro e w1 ⟨g, rfl, hg, HBR, hb1⟩
      have hown1 := own_below' HQ.out.own.2 hb1
      have hBw1 : w.heap.size ≤ w1.heap.size := Nat.le_trans HQ.out.below.size hb1.size
      have hB1 : Hid (Below w.heap.size w w1) := below_more HQ.out.below hb1
      have hcells : ∀ (j : Nat) (u : Value), (Lib.byteCells (enc (rn x)))[j]? = some u → w1.cell? ((⟨g, 0, none⟩ : Addr).add j) = some u := by
        intro j u hj
        have hjl : j < (enc (rn x)).length := by
          have := (List.getElem?_eq_some_iff.1 hj).1
          simpa [Lib.byteCells] using this
        have e : (⟨g, 0, none⟩ : Addr).add j = ⟨g, j, none⟩ := by
          unfold Addr.add; by_cases h0 : j = 0 <;> simp [h0]
        rw [e, HBR.out.cell j hjl, ← hj]
        simp [Lib.byteCells, hjl]
      have HLn := Hid.mk HQ.out.own.1
      have hone : ∀ u ∈ Lib.byteCells (enc (rn x)), u.oneCell' = true := by
        intro u hu
        simp only [Lib.byteCells, List.mem_map] at hu
        obtain ⟨c, _, rfl⟩ := hu
        rfl
      have hnl : (Lib.byteCells (enc (rn x))).length = (enc (rn x)).length * 1 := by simp [Lib.byteCells]
      clear hb1 HE HBR hcx
      generalize enc (rn x) = el at *
      go_wp2_with (at_builtin; refine wpList_append_own _ rfl (.tmp 18) (.tmp 19) 55 rfl w.heap.size 5 i0 (.int .u8 0) 1 1 Tryz.underlying55 hi0 hz0 hz1 hz2 rfl (by decide) _ _ _ rfl hown1 ⟨g, 0, none⟩ el.length el.length (Lib.byteCells el) rfl hnl hcells hone (by unfold maxLen; omega) (by omega) hBw1 ?_)
      intro v2 w2 hown2 hgrow2 hnn
      obtain ⟨so2, sc2, hv2⟩ := own_shape hown2
      have HN2 : Hid (TxSt w w2 v2 (n + el.length) xs (k + 1)) := by
        refine ⟨⟨?_, ?_⟩, hB1.out.grown hgrow2 hBw1 (own_base hown1)⟩
        · rw [HT.out, List.length_append, HLn.out]
        · rw [HT.out, Lib.byteCells_append]; exact hown2
      subst hv2
      clear hown2 hgrow2 hnn hown1 hcells hone hnl
      go_wp2_with fail
      go_roundw
      case rel => exact ⟨k + 1, n + el.length, so2, sc2, by omega, by omega, rfl, by go_num, HN2⟩
      case measure => simp [intOf]; omega
    · have hk1 : ¬ (k : Int) < (N : Int) := by omega
      have hkn : k = N := by omega
      subst hkn
      have htk : xs.take k = xs := List.take_of_length_le (by rw [HN.out]; exact Nat.le_refl _)
      obtain ⟨h1, h2⟩ := HQ.out.own
      rw [htk] at h1 h2
      have hcv := conv_own' h1 h2
      have HB := Hid.mk HQ.out.below
      clear h1 h2 htk
      go_wp2_with fail
      go_ret
      exact ⟨rfl, HB.out⟩
end Go.Proofs.YtbfjpmbninlbbabGreatDoor
