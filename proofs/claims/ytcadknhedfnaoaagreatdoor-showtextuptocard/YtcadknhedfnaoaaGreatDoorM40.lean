import Derived.Test.YtcadknhedfnaoaaGreatDoorM7
import Derived.Test.YtcadknhedfnaoaaGreatDoorM14
namespace Go.Proofs.YtcadknhedfnaoaaGreatDoor
open Go.RowKit
set_option linter.unusedVariables false
set_option linter.unusedSimpArgs false

def toI (zs : List Nat) : List Int := zs.map fun (n : Nat) => (n : Int)
theorem toI_len (zs : List Nat) : (toI zs).length = zs.length := List.length_map ..
theorem toI_get (zs : List Nat) (i : Nat) : (toI zs).getD i 0 = ((zs.getD i 0 : Nat) : Int) := by
  unfold toI
  by_cases h : i < zs.length
  · simp [h]
  · simp [List.getElem?_eq_none (Nat.le_of_not_lt h)]
theorem toI_range (zs : List Nat) (h : ∀ z ∈ zs, isR z) (i : Nat) : -2147483648 ≤ (toI zs).getD i 0 ∧ (toI zs).getD i 0 ≤ 2147483647 := by
  rw [toI_get]
  by_cases hi : i < zs.length
  · have hz : isR (zs.getD i 0) := by
      apply h
      rw [List.getD_eq_getElem?_getD, List.getElem?_eq_getElem hi]
      exact List.getElem_mem hi
    unfold isR at hz
    omega
  · rw [List.getD_eq_getElem?_getD, List.getElem?_eq_none (Nat.le_of_not_lt hi)]
    simp
theorem txt_toI (zs : List Nat) (h : ∀ z ∈ zs, isR z) : ((toI zs).flatMap fun z => enc (rn z)) = txt zs := by
  induction zs with
  | nil => rfl
  | cons z r ih =>
    have e1 : toI (z :: r) = (z : Int) :: toI r := rfl
    have e2 : txt (z :: r) = enc z ++ txt r := rfl
    rw [e1, e2, List.flatMap_cons, rn_nat (h z (List.mem_cons_self ..)), ih fun y hy => h y (List.mem_cons_of_mem _ hy)]

/-- a list at the head of its block -/
def Head (k : IntKind) (w : World) (g n cap : Nat) (xs : List Int) : Prop := xs.length = n ∧ n ≤ cap ∧ g < w.heap.size ∧ ∀ i, i < n → w.cell? ⟨g, i, none⟩ = some (.int k (xs.getD i 0))
theorem Head.ints {k : IntKind} {w : World} {g n cap : Nat} {xs : List Int} (h : Head k w g n cap xs) : Ints k w (.slice (some ⟨g, 0, none⟩) n cap) xs := by
  obtain ⟨h1, h2, h3, h4⟩ := h
  subst h1
  exact ⟨_, cap, rfl, h2, fun _ => ⟨g, 0, rfl, h3, fun i hi => by rw [Nat.zero_add]; exact h4 i hi⟩⟩
theorem Head.keep {k : IntKind} {w w' : World} {g n cap : Nat} {xs : List Int} (h : Head k w g n cap xs) (hb : Below w.heap.size w w') : Head k w' g n cap xs :=
  ⟨h.1, h.2.1, Nat.lt_of_lt_of_le h.2.2.1 hb.size, fun i hi => (hb.cell (p := ⟨g, i, none⟩) h.2.2.1).trans (h.2.2.2 i hi)⟩

theorem beq_lists (s t : ByteArray) : (s.toList == t.toList) = (s.data.toList == t.data.toList) := by
  rw [Lib.toList_data, Lib.toList_data]
theorem txt_len (zs : List Nat) : (txt zs).length ≤ 4 * zs.length := by
  induction zs with
  | nil => exact Nat.le_refl _
  | cons z r ih =>
    have e2 : txt (z :: r) = enc z ++ txt r := rfl
    have := (enc_len z).2
    rw [e2, List.length_append, List.length_cons]; omega
end Go.Proofs.YtcadknhedfnaoaaGreatDoor
namespace Go.Proofs.YtcadknhedfnaoaaGreatDoor
open Go.RowKit
set_option linter.unusedVariables false
set_option linter.unusedSimpArgs false

theorem Tryz.infoR : (Tryz.prog.info? 21).map (fun i => (i.zero, i.size, i.bytes)) = some (some (.int .i32 0), 1, 4) := by kernel_rfl
theorem own_any {w : World} {base n : Nat} {e : TypeId} {size : Nat} {v : Value} {xs : List Value} (h : w.ownsRow base e size v n xs) (hn : 0 < n) : ∃ g cap, v = .slice (some ⟨g, 0, none⟩) n cap := by
  rcases h.2 with ⟨e, e2⟩ | ⟨g, cap, cur, e, _⟩
  · omega
  · exact ⟨g, cap, e⟩
theorem own_head {w : World} {base : Nat} {e : TypeId} {k : IntKind} {g cap n : Nat} {xs : List Int} (h : w.ownsRow base e 1 (.slice (some ⟨g, 0, none⟩) n cap) n (ivals k xs)) : Head k w g n cap xs := by
  have hs := h
  obtain ⟨hl, h⟩ := h
  have hn : xs.length = n := by
    have : (ivals k xs).length = xs.length := by simp [ivals]
    omega
  rcases h with ⟨h0, _⟩ | ⟨g', cap', cur, hv, hg, hh, hcap, hm, hcs, ht⟩
  · cases h0
  · cases hv
    refine ⟨hn, hcap, (Array.getElem?_eq_some_iff.1 hh).1, fun i hi => ?_⟩
    rw [cell_of_row w g i cur e (0, 0) hh]
    have h1 := ivals_get k xs i (by omega)
    rw [← ht, List.getElem?_take, if_pos (by omega)] at h1
    simpa using h1

set_option maxRecDepth 100000 in
set_option maxHeartbeats 1600000 in
theorem w_IsRune (x : Int) (w : World) :
    Calls Tryz.prog 83 #[.int .i64 x] w fun e w' => e = .returned (.bool (Lib.validRune x)) ∧ w' = w := by
  have HV : Hid (Lib.validRune x = decide ((0 ≤ x ∧ x < 0xD800) ∨ (0xDFFF < x ∧ x ≤ 0x10FFFF))) := rfl
  rcases (show x < 0 ∨ (0 ≤ x ∧ ¬ x ≤ 1114111) ∨ (0 ≤ x ∧ x ≤ 1114111 ∧ x < 55296) ∨ (0 ≤ x ∧ x ≤ 1114111 ∧ ¬ x < 55296 ∧ 57343 < x) ∨ (0 ≤ x ∧ x ≤ 1114111 ∧ ¬ x < 55296 ∧ ¬ 57343 < x) by omega) with h | ⟨h, h1⟩ | ⟨h, h1, h2⟩ | ⟨h, h1, h2, h3⟩ | ⟨h, h1, h2, h3⟩
  · have HF : Hid (Lib.validRune x = false) := by show _ = _; rw [HV.out]; exact decide_eq_false (by omega)
    have h' : ¬ 0 ≤ x := by omega
    go_enter Tryz.func83, Tryz.ntmps83
    go_wp2_with fail
    go_ret
    exact ⟨by rw [HF.out]; rfl, rfl⟩
  · have HF : Hid (Lib.validRune x = false) := by show _ = _; rw [HV.out]; exact decide_eq_false (by omega)
    go_enter Tryz.func83, Tryz.ntmps83
    go_wp2_with fail
    go_ret
    exact ⟨by rw [HF.out]; rfl, rfl⟩
  · have HF : Hid (Lib.validRune x = true) := by show _ = _; rw [HV.out]; exact decide_eq_true (by omega)
    go_enter Tryz.func83, Tryz.ntmps83
    go_wp2_with fail
    go_ret
    exact ⟨by rw [HF.out]; rfl, rfl⟩
  · have HF : Hid (Lib.validRune x = true) := by show _ = _; rw [HV.out]; exact decide_eq_true (by omega)
    go_enter Tryz.func83, Tryz.ntmps83
    go_wp2_with fail
    go_ret
    exact ⟨by rw [HF.out]; rfl, rfl⟩
  · have HF : Hid (Lib.validRune x = false) := by show _ = _; rw [HV.out]; exact decide_eq_false (by omega)
    go_enter Tryz.func83, Tryz.ntmps83
    go_wp2_with fail
    go_ret
    exact ⟨by rw [HF.out]; rfl, rfl⟩

theorem txt_rn (xs : List Int) : (xs.flatMap fun z => enc (rn z)) = txt (xs.map rn) := by
  unfold txt; rw [List.flatMap_map]
theorem map_rn_isR (xs : List Int) : ∀ z ∈ xs.map rn, isR z := by
  intro z hz
  obtain ⟨x, _, rfl⟩ := List.mem_map.1 hz
  exact rn_isR x
theorem get_rn (xs : List Int) (i : Nat) (h : i < xs.length) : (toI (xs.map rn)).getD i 0 = if Lib.validRune (xs.getD i 0) then xs.getD i 0 else 65533 := by
  rw [toI_get, List.getD_eq_getElem?_getD, List.getElem?_map, List.getElem?_eq_getElem h, List.getD_eq_getElem?_getD, List.getElem?_eq_getElem h]
  show ((rn xs[i] : Nat) : Int) = if Lib.validRune xs[i] then xs[i] else 65533
  unfold rn
  cases hv : Lib.validRune xs[i] with
  | true =>
    have hv' : decide ((0 ≤ xs[i] ∧ xs[i] < 0xD800) ∨ (0xDFFF < xs[i] ∧ xs[i] ≤ 0x10FFFF)) = true := hv
    have := of_decide_eq_true hv'
    simp only [if_true]
    omega
  | false => rfl
end Go.Proofs.YtcadknhedfnaoaaGreatDoor
namespace Go.Proofs.YtcadknhedfnaoaaGreatDoor
open Go.RowKit
set_option linter.unusedVariables false
set_option linter.unusedSimpArgs false

set_option maxHeartbeats 800000 in
theorem w_Size (n : Nat) (w : World) (hn : n ≤ 1114111) :
    Calls Tryz.prog 84 #[.int .i64 (n : Int)] w fun e w' => e = .returned (.int .i64 ((enc n).length : Int)) ∧ w' = w := by
  by_cases h1 : n < 0x80
  · have HL : Hid ((enc n).length = 1) := by show _ = _; unfold enc; rw [if_pos h1]; rfl
    have q1 : (n : Int) < 128 := by omega
    clear h1
    go_enter Tryz.func84, Tryz.ntmps84
    go_wp2_with fail
    go_ret
    exact ⟨by rw [HL.out]; rfl, rfl⟩
  by_cases h2 : n < 0x800
  · have HL : Hid ((enc n).length = 2) := by show _ = _; unfold enc; rw [if_neg h1, if_pos h2]; rfl
    have q1 : ¬ (n : Int) < 128 := by omega
    have q2 : (n : Int) < 2048 := by omega
    clear h1 h2
    go_enter Tryz.func84, Tryz.ntmps84
    go_wp2_with fail
    go_ret
    exact ⟨by rw [HL.out]; rfl, rfl⟩
  by_cases h3 : n < 0x10000
  · have HL : Hid ((enc n).length = 3) := by show _ = _; unfold enc; rw [if_neg h1, if_neg h2, if_pos h3]; rfl
    have q2 : ¬ (n : Int) < 2048 := by omega
    have q1 : ¬ (n : Int) < 128 := by omega
    have q3 : (n : Int) < 65536 := by omega
    clear h1 h2 h3
    go_enter Tryz.func84, Tryz.ntmps84
    go_wp2_with fail
    go_ret
    exact ⟨by rw [HL.out]; rfl, rfl⟩
  · have HL : Hid ((enc n).length = 4) := by show _ = _; unfold enc; rw [if_neg h1, if_neg h2, if_neg h3]; rfl
    have q1 : ¬ (n : Int) < 128 := by omega
    have q2 : ¬ (n : Int) < 2048 := by omega
    have q3 : ¬ (n : Int) < 65536 := by omega
    clear h1 h2 h3
    go_enter Tryz.func84, Tryz.ntmps84
    go_wp2_with fail
    go_ret
    exact ⟨by rw [HL.out]; rfl, rfl⟩
end Go.Proofs.YtcadknhedfnaoaaGreatDoor
namespace Go.Proofs.YtcadknhedfnaoaaGreatDoor
open Go.RowKit
set_option linter.unusedVariables false
set_option linter.unusedSimpArgs false

/-- a row of bytes, all of it used -/
def BRow (w : World) (g : Nat) (l : List UInt8) : Prop := w.heap[g]? = some (.cells (Lib.byteCells l).toArray 5 (0, 0))
theorem BRow.set {w : World} {g : Nat} {l : List UInt8} (h : BRow w g l) (i : Nat) (c : UInt8) (z : Int) (hz : z = (c.toNat : Int)) (hi : i < l.length) : BRow (w.setCell ⟨g, i, none⟩ (.int .u8 z)) g (l.set i c) := by
  unfold BRow at *
  subst hz
  rw [heap_setCell_same w g i _ _ _ h]
  congr 2
  rw [List.setIfInBounds_toArray]
  simp [Lib.byteCells, List.map_set]
theorem BRow.lt {w : World} {g : Nat} {l : List UInt8} (h : BRow w g l) : g < w.heap.size := (Array.getElem?_eq_some_iff.1 h).1
theorem BRow.free {w : World} {g : Nat} {l : List UInt8} (h : BRow w g l) (i : Nat) : w.frozen? ⟨g, i, none⟩ = false := frozen_of_row w g i _ _ h
theorem BRow.cell {w : World} {g : Nat} {l : List UInt8} (h : BRow w g l) (i : Nat) (hi : i < l.length) : w.cell? ⟨g, i, none⟩ = some (.int .u8 ((l.getD i 0).toNat : Int)) := by
  rw [cell_of_row w g i _ _ _ h]
  simp [Lib.byteCells, hi]

theorem bmade (m : Nat) : madeCells #[.int .u8 0] m = (Lib.byteCells (List.replicate m 0)).toArray := by
  unfold madeCells Lib.byteCells
  apply Array.ext
  · simp
  · intro i h1 h2
    have e : i % 1 = 0 := by omega
    simp [e]
theorem brow_new (w : World) (m : Nat) : BRow (w.alloc (brow m)) w.heap.size (List.replicate m 0) := by
  have h := heap_alloc_new w (brow m)
  unfold BRow
  rw [h]
  unfold brow
  rw [bmade]
theorem run_make_brow (m : Nat) (z : Int) (hz : z = (m : Int)) (hn : m ≤ 140737488355328) (u : World) : (Instr.makeSlice 39 (.int .i64 z) (.int .i64 z)).run Tryz.prog u = .ok (.slice (some ⟨u.heap.size, 0, none⟩) m m) (u.alloc (brow m)) := by
  subst hz
  obtain ⟨i0, hi, hz0, hz1, hz2⟩ := info_parts Tryz.infoB
  have h := run_make (P := Tryz.prog) u 39 5 i0 (.int .u8 0) Tryz.underlying39 hi hz0 .i64 .i64 (m : Int) (m : Int) (by omega) (Int.le_refl _) (by rw [hz2]; omega) (by omega)
  have e : ((m : Int)).toNat = m := by omega
  rw [e] at h
  simpa [hz1, Value.cells, brow] using h

/-- a call that answers a new row of bytes -/
def BytesR (w w' : World) (e : Ending) (l : List UInt8) : Prop := ∃ g, e = .returned (.slice (some ⟨g, 0, none⟩) l.length l.length) ∧ w.heap.size ≤ g ∧ Hid (BRow w' g l) ∧ Below w.heap.size w w'

set_option maxRecDepth 100000 in
set_option maxHeartbeats 1600000 in
theorem w_Encoding1 (n : Nat) (w : World) (h1 : n < 0x80) :
    Calls Tryz.prog 47 #[.int .i64 (n : Int)] w fun e w' => BytesR w w' e (enc n) := by
  have he : enc n = [UInt8.ofNat n] := by unfold enc; rw [if_pos h1]
  have HI := Hid.mk (fun u => w_IsRune (n : Int) u)
  rw [show Lib.validRune (n : Int) = true from decide_eq_true (by omega)] at HI
  have HS := Hid.mk (fun u => w_Size n u (by omega))
  rw [he] at HS
  rw [show (([UInt8.ofNat n].length : Nat) : Int) = 1 from rfl] at HS
  have HBR : ∀ z : Int, z = (n : Int) → BRow (w.alloc (.cells #[.int .u8 z] 5)) w.heap.size [UInt8.ofNat n] := by
    intro z hz
    have h := heap_alloc_new w (.cells #[.int .u8 z] 5)
    unfold BRow
    rw [h, hz]
    have e : (UInt8.ofNat n).toNat = n := ofNat_small (by omega)
    simp [Lib.byteCells, e]
  have HBH := Hid.mk HBR
  have hn1 : (n : Int) < 128 := by omega
  unfold BytesR
  rw [he]
  clear HBR he
  go_enter Tryz.func47, Tryz.ntmps47
  go_wp2_with fail
  refine (HI.out _).mono ?_
  rintro e w1 ⟨rfl, hw⟩
  obtain rfl := hw.symm
  go_wp2_with fail
  refine (HS.out _).mono ?_
  rintro e w1 ⟨rfl, hw⟩
  obtain rfl := hw.symm
  go_wp2_with fail
  go_ret
  exact ⟨_, rfl, Nat.le_refl _, HBH.out _ (by first | rfl | omega), below1 w _⟩


set_option maxRecDepth 100000 in
set_option maxHeartbeats 1600000 in
theorem w_Encoding2 (n : Nat) (w : World) (h1 : ¬ n < 0x80) (h2 : n < 0x800) :
    Calls Tryz.prog 47 #[.int .i64 (n : Int)] w fun e w' => BytesR w w' e (enc n) := by
  have he : enc n = [UInt8.ofNat (0xC0 + n / 64), UInt8.ofNat (0x80 + n % 64)] := by unfold enc; rw [if_neg h1, if_pos h2]
  have HI := Hid.mk (fun u => w_IsRune (n : Int) u)
  rw [show Lib.validRune (n : Int) = true from decide_eq_true (by omega)] at HI
  have HS := Hid.mk (fun u => w_Size n u (by omega))
  rw [he] at HS
  rw [show (([UInt8.ofNat (0xC0 + n / 64), UInt8.ofNat (0x80 + n % 64)].length : Nat) : Int) = 2 from rfl] at HS
  have hmk := fun (u : World) => run_make_brow 2 2 rfl (by decide) u
  have hb0 : BRow (w.alloc (brow 2)) w.heap.size [0, 0] := brow_new w 2
  have hf0 := fun i => hb0.free i
  have hcl0 := hb0.cell 0 (by decide)
  have hcl1 := hb0.cell 1 (by decide)
  unfold BytesR
  rw [he]
  have hn1 : ¬ (n : Int) < 128 := by omega
  have hn2 : (n : Int) < 2048 := by omega
  have HB0 := Hid.mk hb0
  clear he hb0
  go_enter Tryz.func47, Tryz.ntmps47
  go_wp2_with fail
  refine (HI.out _).mono ?_
  rintro e w1 ⟨rfl, hw⟩
  obtain rfl := hw.symm
  go_wp2_with fail
  refine (HS.out _).mono ?_
  rintro e w1 ⟨rfl, hw⟩
  obtain rfl := hw.symm
  go_wp2_with fail
  refine wp_loop_rounds 2 ?_
  rw [rounds_succ]
  go_wp2_with fail
  rw [rounds_succ]
  go_wp2_with fail
  go_ret
  have hb0 := HB0.out
  exact ⟨_, rfl, Nat.le_refl _, ((hb0.set 1 (UInt8.ofNat (0x80 + n % 64)) _ (by rw [ofNat_small (by omega)]; omega) (by simp)).set 0 (UInt8.ofNat (0xC0 + n / 64)) _ (by rw [ofNat_small (by omega)]; omega) (by simp)), (((below1 w (brow 2)).setCell (Nat.le_refl _) _).setCell (Nat.le_refl _) _)⟩

set_option maxRecDepth 100000 in
set_option maxHeartbeats 1600000 in
theorem w_Encoding3 (n : Nat) (w : World) (h1 : ¬ n < 0x80) (h2 : ¬ n < 0x800) (h3 : n < 0x10000) (hR : isR n) :
    Calls Tryz.prog 47 #[.int .i64 (n : Int)] w fun e w' => BytesR w w' e (enc n) := by
  unfold isR at hR
  have he : enc n = [UInt8.ofNat (0xE0 + n / 4096), UInt8.ofNat (0x80 + n / 64 % 64), UInt8.ofNat (0x80 + n % 64)] := by unfold enc; rw [if_neg h1, if_neg h2, if_pos h3]
  have HI := Hid.mk (fun u => w_IsRune (n : Int) u)
  rw [show Lib.validRune (n : Int) = true from decide_eq_true (by omega)] at HI
  have HS := Hid.mk (fun u => w_Size n u (by omega))
  rw [he] at HS
  rw [show (([UInt8.ofNat (0xE0 + n / 4096), UInt8.ofNat (0x80 + n / 64 % 64), UInt8.ofNat (0x80 + n % 64)].length : Nat) : Int) = 3 from rfl] at HS
  have hmk := fun (u : World) => run_make_brow 3 3 rfl (by decide) u
  have hb0 : BRow (w.alloc (brow 3)) w.heap.size [0, 0, 0] := brow_new w 3
  have hf0 := fun i => hb0.free i
  have hcl0 := hb0.cell 0 (by decide)
  have hcl1 := hb0.cell 1 (by decide)
  have hcl2 := hb0.cell 2 (by decide)
  unfold BytesR
  rw [he]
  have hn1 : ¬ (n : Int) < 128 := by omega
  have hn2 : ¬ (n : Int) < 2048 := by omega
  have hn3 : (n : Int) < 65536 := by omega
  have HB0 := Hid.mk hb0
  clear he hb0
  go_enter Tryz.func47, Tryz.ntmps47
  go_wp2_with fail
  refine (HI.out _).mono ?_
  rintro e w1 ⟨rfl, hw⟩
  obtain rfl := hw.symm
  go_wp2_with fail
  refine (HS.out _).mono ?_
  rintro e w1 ⟨rfl, hw⟩
  obtain rfl := hw.symm
  go_wp2_with fail
  refine wp_loop_rounds 3 ?_
  rw [rounds_succ]
  go_wp2_with fail
  rw [rounds_succ]
  go_wp2_with fail
  rw [rounds_succ]
  go_wp2_with fail
  go_ret
  have hb0 := HB0.out
  exact ⟨_, rfl, Nat.le_refl _, (((hb0.set 2 (UInt8.ofNat (0x80 + n % 64)) _ (by rw [ofNat_small (by omega)]; omega) (by simp)).set 1 (UInt8.ofNat (0x80 + n / 64 % 64)) _ (by rw [ofNat_small (by omega)]; omega) (by simp)).set 0 (UInt8.ofNat (0xE0 + n / 4096)) _ (by rw [ofNat_small (by omega)]; omega) (by simp)), ((((below1 w (brow 3)).setCell (Nat.le_refl _) _).setCell (Nat.le_refl _) _).setCell (Nat.le_refl _) _)⟩

set_option maxRecDepth 100000 in
set_option maxHeartbeats 1600000 in
theorem w_Encoding4 (n : Nat) (w : World) (h1 : ¬ n < 0x80) (h2 : ¬ n < 0x800) (h3 : ¬ n < 0x10000) (hR : isR n) :
    Calls Tryz.prog 47 #[.int .i64 (n : Int)] w fun e w' => BytesR w w' e (enc n) := by
  unfold isR at hR
  have he : enc n = [UInt8.ofNat (0xF0 + n / 262144), UInt8.ofNat (0x80 + n / 4096 % 64), UInt8.ofNat (0x80 + n / 64 % 64), UInt8.ofNat (0x80 + n % 64)] := by unfold enc; rw [if_neg h1, if_neg h2, if_neg h3]
  have HI := Hid.mk (fun u => w_IsRune (n : Int) u)
  rw [show Lib.validRune (n : Int) = true from decide_eq_true (by omega)] at HI
  have HS := Hid.mk (fun u => w_Size n u (by omega))
  rw [he] at HS
  rw [show (([UInt8.ofNat (0xF0 + n / 262144), UInt8.ofNat (0x80 + n / 4096 % 64), UInt8.ofNat (0x80 + n / 64 % 64), UInt8.ofNat (0x80 + n % 64)].length : Nat) : Int) = 4 from rfl] at HS
  have hmk := fun (u : World) => run_make_brow 4 4 rfl (by decide) u
  have hb0 : BRow (w.alloc (brow 4)) w.heap.size [0, 0, 0, 0] := brow_new w 4
  have hf0 := fun i => hb0.free i
  have hcl0 := hb0.cell 0 (by decide)
  have hcl1 := hb0.cell 1 (by decide)
  have hcl2 := hb0.cell 2 (by decide)
  have hcl3 := hb0.cell 3 (by decide)
  unfold BytesR
  rw [he]
  have hn1 : ¬ (n : Int) < 128 := by omega
  have hn2 : ¬ (n : Int) < 2048 := by omega
  have hn3 : ¬ (n : Int) < 65536 := by omega
  have hn4 : (n : Int) ≤ 1114111 := by omega
  have HB0 := Hid.mk hb0
  clear he hb0
  go_enter Tryz.func47, Tryz.ntmps47
  go_wp2_with fail
  refine (HI.out _).mono ?_
  rintro e w1 ⟨rfl, hw⟩
  obtain rfl := hw.symm
  go_wp2_with fail
  refine (HS.out _).mono ?_
  rintro e w1 ⟨rfl, hw⟩
  obtain rfl := hw.symm
  go_wp2_with fail
  refine wp_loop_rounds 4 ?_
  rw [rounds_succ]
  go_wp2_with fail
  rw [rounds_succ]
  go_wp2_with fail
  rw [rounds_succ]
  go_wp2_with fail
  rw [rounds_succ]
  go_wp2_with fail
  go_ret
  have hb0 := HB0.out
  exact ⟨_, rfl, Nat.le_refl _, ((((hb0.set 3 (UInt8.ofNat (0x80 + n % 64)) _ (by rw [ofNat_small (by omega)]; omega) (by simp)).set 2 (UInt8.ofNat (0x80 + n / 64 % 64)) _ (by rw [ofNat_small (by omega)]; omega) (by simp)).set 1 (UInt8.ofNat (0x80 + n / 4096 % 64)) _ (by rw [ofNat_small (by omega)]; omega) (by simp)).set 0 (UInt8.ofNat (0xF0 + n / 262144)) _ (by rw [ofNat_small (by omega)]; omega) (by simp)), (((((below1 w (brow 4)).setCell (Nat.le_refl _) _).setCell (Nat.le_refl _) _).setCell (Nat.le_refl _) _).setCell (Nat.le_refl _) _)⟩
end Go.Proofs.YtcadknhedfnaoaaGreatDoor
namespace Go.Proofs.YtcadknhedfnaoaaGreatDoor
open Go.RowKit
set_option linter.unusedVariables false
set_option linter.unusedSimpArgs false

set_option maxRecDepth 100000 in
set_option maxHeartbeats 1600000 in
theorem w_EncodingBad (z : Int) (w : World) (hz : Lib.validRune z = false) :
    Calls Tryz.prog 47 #[.int .i64 z] w fun e w' => BytesR w w' e [239, 191, 189] := by
  have HI := Hid.mk (fun u => w_IsRune z u)
  rw [hz] at HI
  have HS := Hid.mk (fun u => w_Size 65533 u (by omega))
  rw [enc_err, show (([239, 191, 189] : List UInt8).length : Int) = 3 from rfl, show ((65533 : Nat) : Int) = 65533 from rfl] at HS
  have hmk := fun (u : World) => run_make_brow 3 3 rfl (by decide) u
  have hb0 : BRow (w.alloc (brow 3)) w.heap.size [0, 0, 0] := brow_new w 3
  have hf0 := fun i => hb0.free i
  have hcl0 := hb0.cell 0 (by decide)
  have hcl1 := hb0.cell 1 (by decide)
  have hcl2 := hb0.cell 2 (by decide)
  unfold BytesR
  have HB0 := Hid.mk hb0
  clear hb0 hz
  go_enter Tryz.func47, Tryz.ntmps47
  go_wp2_with fail
  refine (HI.out _).mono ?_
  rintro e w1 ⟨rfl, hw⟩
  obtain rfl := hw.symm
  go_wp2_with fail
  refine (HS.out _).mono ?_
  rintro e w1 ⟨rfl, hw⟩
  obtain rfl := hw.symm
  go_wp2_with fail
  refine wp_loop_rounds 3 ?_
  rw [rounds_succ]
  go_wp2_with fail
  rw [rounds_succ]
  go_wp2_with fail
  rw [rounds_succ]
  go_wp2_with fail
  go_ret
  have hb0 := HB0.out
  exact ⟨_, rfl, Nat.le_refl _, (((hb0.set 2 189 _ (by decide) (by simp)).set 1 191 _ (by decide) (by simp)).set 0 239 _ (by decide) (by simp)), ((((below1 w (brow 3)).setCell (Nat.le_refl _) _).setCell (Nat.le_refl _) _).setCell (Nat.le_refl _) _)⟩

theorem w_Encoding (z : Int) (w : World) :
    Calls Tryz.prog 47 #[.int .i64 z] w fun e w' => BytesR w w' e (enc (rn z)) := by
  cases hv : Lib.validRune z with
  | false =>
    have e : rn z = 65533 := by unfold rn; rw [hv]; rfl
    rw [e, enc_err]
    exact w_EncodingBad z w hv
  | true =>
    have hv' : decide ((0 ≤ z ∧ z < 0xD800) ∨ (0xDFFF < z ∧ z ≤ 0x10FFFF)) = true := hv
    have h := of_decide_eq_true hv'
    have e : rn z = z.toNat := by unfold rn; rw [hv]; rfl
    have hR := rn_isR z
    have ez : z = ((rn z : Nat) : Int) := by rw [e]; omega
    generalize rn z = n at *
    subst ez
    by_cases h1 : n < 0x80
    · exact w_Encoding1 n w h1
    by_cases h2 : n < 0x800
    · exact w_Encoding2 n w h1 h2
    by_cases h3 : n < 0x10000
    · exact w_Encoding3 n w h1 h2 h3 hR
    · exact w_Encoding4 n w h1 h2 h3 hR
end Go.Proofs.YtcadknhedfnaoaaGreatDoor
namespace Go.Proofs.YtcadknhedfnaoaaGreatDoor
open Go.RowKit
set_option linter.unusedVariables false
set_option linter.unusedSimpArgs false

theorem conv_zero' (w : World) (p : Option Addr) (c : Nat) : (convert 39 9 (.slice p 0 c)).run Tryz.prog w = .ok (.string ByteArray.empty) w := by
  rw [run_convert_bytes_string w 39 9 5 _ 0 c Tryz.underlying39 Tryz.underlying5 Tryz.underlying9]
  cases p <;> simp [Conv.bytesToString, loadCells]
  all_goals rfl
theorem conv_own' {wr : World} {base n : Nat} {l : List UInt8} {ao : Option Addr} {cap : Nat} (h1 : l.length = n) (h3 : wr.ownsRow base 5 1 (.slice ao n cap) n (Lib.byteCells l)) : (convert 39 9 (.slice ao n cap)).run Tryz.prog wr = .ok (.string ⟨l.toArray⟩) wr := by
  by_cases hn : 0 < n
  · obtain ⟨g, cap', hv⟩ := own_some h3 hn
    cases hv
    exact bytes_conv h1 h3
  · have e : n = 0 := by omega
    subst e
    have e2 : l = [] := List.eq_nil_of_length_eq_zero h1
    subst e2
    exact conv_zero' wr ao cap

theorem own_below' {w w1 : World} {B e size n : Nat} {v : Value} {xs : List Value} (h : w.ownsRow B e size v n xs) (hb : Below w.heap.size w w1) : w1.ownsRow B e size v n xs := by
  refine ⟨h.1, ?_⟩
  rcases h.2 with h0 | ⟨g, cap, cur, hv, hb', hg, rest⟩
  · exact .inl h0
  · refine .inr ⟨g, cap, cur, hv, hb', ?_, rest⟩
    rw [hb.block g (Array.getElem?_eq_some_iff.1 hg).1]
    exact hg
def rtxt (xs : List Int) : List UInt8 := xs.flatMap fun x => enc (rn x)
/-- while the reference writes -/
structure TxSt (w wr : World) (v : Value) (n : Nat) (xs : List Int) (k : Nat) : Prop where
  own : (rtxt (xs.take k)).length = n ∧ wr.ownsRow w.heap.size 5 1 v n (Lib.byteCells (rtxt (xs.take k)))
  below : Below w.heap.size w wr
end Go.Proofs.YtcadknhedfnaoaaGreatDoor
