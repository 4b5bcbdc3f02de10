import Derived.Test.YtbfjpmbninlbbabGreatDoorV29
namespace Go.Proofs.YtbfjpmbninlbbabGreatDoor
open Go.RowKit
set_option linter.unusedVariables false
set_option linter.unusedSimpArgs false

set_option maxRecDepth 100000 in
set_option maxHeartbeats 1600000 in
theorem w_EncodingBad (z : Int) (w : World) (hz : Lib.validRune z = false) :
    Calls Tryz.prog 43 #[.int .i64 z] w fun e w' => BytesR w w' e [239, 191, 189] := by
  have HI := Hid.mk (fun u => w_IsRune z u)
  rw [hz] at HI
  have HS := Hid.mk (fun u => w_Size 65533 u (by omega))
  rw [enc_err, show (([239, 191, 189] : List UInt8).length : Int) = 3 from rfl, show ((65533 : Nat) : Int) = 65533 from rfl] at HS
  have hmk := fun (u : World) => run_make_brow 3 3 rfl (by decide) u
  have hb0 : BRow (w.alloc (brow 3)) w.heap.size [0, 0, 0] := brow_new w 3
  have hf0 := fun i => hb0.free i
  have hcl0 := hb0.cell 0 (by decide)
  have hcl1 := hb0.cell 1 (by decide)
  have hcl2 := hb0.cell 2 (by decide)
  unfold BytesR
  have HB0 := Hid.mk hb0
  clear hb0 hz
  go_enter Tryz.func43, Tryz.ntmps43
  go_wp2_with fail
  refine (HI.out _).mono ?_
  rintro e w1 ⟨rfl, hw⟩
  obtain rfl := hw.symm
  go_wp2_with fail
  refine (HS.out _).mono ?_
  rintro e w1 ⟨rfl, hw⟩
  obtain rfl := hw.symm
  go_wp2_with fail
  refine wp_loop_rounds 3 ?_
  rw [rounds_succ]
  go_wp2_with fail
  rw [rounds_succ]
  go_wp2_with fail
  rw [rounds_succ]
  go_wp2_with fail
  go_ret
  have hb0 := HB0.out
  exact ⟨_, rfl, Nat.le_refl _, (((hb0.set 2 189 _ (by decide) (by simp)).set 1 191 _ (by decide) (by simp)).set 0 239 _ (by decide) (by simp)), ((((below1 w (brow 3)).setCell (Nat.le_refl _) _).setCell (Nat.le_refl _) _).setCell (Nat.le_refl _) _)⟩

theorem w_Encoding (z : Int) (w : World) :
    Calls Tryz.prog 43 #[.int .i64 z] w fun e w' => BytesR w w' e (enc (rn z)) := by
  cases hv : Lib.validRune z with
  | false =>
    have e : rn z = 65533 := by unfold rn; rw [hv]; rfl
    rw [e, enc_err]
    exact w_EncodingBad z w hv
  | true =>
    have hv' : decide ((0 ≤ z ∧ z < 0xD800) ∨ (0xDFFF < z ∧ z ≤ 0x10FFFF)) = true := hv
    have h := of_decide_eq_true hv'
    have e : rn z = z.toNat := by unfold rn; rw [hv]; rfl
    have hR := rn_isR z
    have ez : z = ((rn z : Nat) : Int) := by rw [e]; omega
    generalize rn z = n at *
    subst ez
    by_cases h1 : n < 0x80
    · exact w_Encoding1 n w h1
    by_cases h2 : n < 0x800
    · exact w_Encoding2 n w h1 h2
    by_cases h3 : n < 0x10000
    · exact w_Encoding3 n w h1 h2 h3 hR
    · exact w_Encoding4 n w h1 h2 h3 hR
end Go.Proofs.YtbfjpmbninlbbabGreatDoor
