import Derived.Test.YtcpnodkcnblkdaaGreatDoorM21
import Derived.Laws.EntriesVeiled
import Derived.Deep.RegionHeld3
import Derived.Test.YtcpnodkcnblkdaaGreatDoorX0
namespace Go.Proofs.YtcpnodkcnblkdaaGreatDoor
open Go.RowKit
set_option linter.unusedVariables false
set_option linter.unusedSimpArgs false
end Go.Proofs.YtcpnodkcnblkdaaGreatDoor
namespace Go.Proofs.YtcpnodkcnblkdaaGreatDoor
open Go.RowKit
set_option linter.unusedVariables false
set_option linter.unusedSimpArgs false
theorem VB2.drew {w u : World} {a b c d e b' c' d' e' : Value} (h : VB2 w u a b c d e b' c' d' e') : VB2 w u.drew a b c d e b' c' d' e' := ⟨h.one.drew, h.two.drew⟩
structure VCm (w w2 u : World) (k : Nat) (f a b c d e b' c' d' e' : Value) : Prop where
  v : VB2 w u a b c d e b' c' d' e'
  way : u.cell? ⟨w2.heap.size, k, none⟩ = some f
  lt : w2.heap.size < u.heap.size
theorem VCm.keep {w w2 u u' : World} {k : Nat} {f a b c d e b' c' d' e' : Value} (h : VCm w w2 u k f a b c d e b' c' d' e') (hb : Below u.heap.size u u') : VCm w w2 u' k f a b c d e b' c' d' e' :=
  ⟨h.v.keep hb, (hb.cell (p := ⟨_, _, _⟩) h.lt).trans h.way, Nat.lt_of_lt_of_le h.lt hb.size⟩
theorem VCm.drew {w w2 u : World} {k : Nat} {f a b c d e b' c' d' e' : Value} (h : VCm w w2 u k f a b c d e b' c' d' e') : VCm w w2 u.drew k f a b c d e b' c' d' e' := ⟨h.v.drew, h.way, h.lt⟩
end Go.Proofs.YtcpnodkcnblkdaaGreatDoor
namespace Go.Proofs.YtcpnodkcnblkdaaGreatDoor
open Go.RowKit
set_option linter.unusedVariables false
set_option linter.unusedSimpArgs false

theorem cmpV_ne {ka kb : Int} (hk : ¬ ka = kb) (nc tc kc ic : Int) : cmpV ka kb nc tc kc ic = Pl.cmpI ka kb := by
  unfold cmpV Pl.cmpI
  by_cases h : ka < kb
  · rw [if_pos h, if_pos h]
  · rw [if_neg h, if_neg h, if_pos (by omega), if_pos (by omega)]
theorem cmpV_eq (k : Int) (nc tc kc ic : Int) : cmpV k k nc tc kc ic = if k = 3 then nc else if k = 4 then tc else if k = 5 then ic else if k = 6 then (if kc = 0 then ic else kc) else 0 := by
  unfold cmpV; rw [if_neg (by omega), if_neg (by omega)]
end Go.Proofs.YtcpnodkcnblkdaaGreatDoor
