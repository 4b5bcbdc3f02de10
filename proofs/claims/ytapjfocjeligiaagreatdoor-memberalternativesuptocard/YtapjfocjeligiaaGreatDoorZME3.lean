import Derived.Test.YtapjfocjeligiaaGreatDoorM20
import Derived.Test.YtapjfocjeligiaaGreatDoorM27
namespace Go.Proofs.YtapjfocjeligiaaGreatDoor
open Go.RowKit
set_option linter.unusedVariables false
set_option linter.unusedSimpArgs false
section
variable {H : Type} {enc : TypeId × Value → H} {W : World}

/-- a row of alternatives, opened -/
theorem obs_open {fuel : Nat} {cs : List Value} {x : DataW H × List MemPlace} (h : DataW.trod enc Tryz.prog W 0 (fun _ => true) true fuel 27 cs = some x) (hb : Rows.uptoBulk x.1 ≤ 1048576) :
    ∃ (oo : Option Addr) (oc : Nat) (os : List OB), cs = [.slice oo os.length oc] ∧ os.length ≤ oc ∧ os.length ≤ 140737488355328 ∧ ObIn W fuel oo os := by
  have ih' : TyIH enc W fuel := fun n cs' x' hn ht hb => tt_open n cs' x' ht hb
  obtain ⟨oo, oc, os, og, e8, o1, o2, osm, o3⟩ := row_open (α := OB) Tryz.underlying27 cellsObT (by omega) h (fun o cs' B => ObP W fuel o cs' B) (fun n cs' d ps hn' ht hb' => obj_el ih' (by omega) (by omega) ht (by omega))
  refine ⟨oo, oc, os, e8, o1, by omega, ⟨fun hp => ?_⟩⟩
  obtain ⟨b, off, e, hl2, hc⟩ := o3 hp
  refine ⟨b, off, e, hl2, fun i hi' => ?_⟩
  obtain ⟨cs', ⟨_, ko, kc, fo, fc, mo, mc, c0, c1, c2, c3, c4, c5, c6, c7, c8, rfl, k1, k2, k3, k4, k5, k6⟩, _, hcell⟩ := hc i hi'
  exact ⟨ko, kc, fo, fc, mo, mc, c0, c1, c2, c3, c4, c5, c6, c7, c8, ⟨hcell 0 (by omega), hcell 1 (by omega), hcell 2 (by omega)⟩, ⟨hcell 3 (by omega), hcell 4 (by omega), hcell 5 (by omega), hcell 6 (by omega), hcell 7 (by omega), hcell 8 (by omega), hcell 9 (by omega), hcell 10 (by omega), hcell 11 (by omega)⟩, ⟨k1, k2, k3, k4, k5, k6⟩⟩
end
end Go.Proofs.YtapjfocjeligiaaGreatDoor
