import Derived.Test.YtdjleoglphgdgaaGreatDoorM16
import Derived.WideKeyArgs
import Derived.WideKeyElems4
import Derived.Deep.Slices
import Derived.OpenShut
import Derived.WalkKit
set_option linter.unusedVariables false
namespace Go.Proofs.YtdjleoglphgdgaaGreatDoor
open Go.ChangeShapes Go.WideShapes Go.RowKit
instance:Inhabited VT:=⟨.mk 0 .empty .empty [] []⟩
theorem InH.up {W:World}:∀ {h:Nat} {T:VT} {v:Value},InH W h T v→InH W (h+1) T v
 | 0,_,_,h=>h.elim
 | h+1,T,v,hI=>by
  obtain ⟨io,icap,ko,kcap,e,a1,a2,a3,a4,a5,a6,a7,hk,hi⟩:=hI;refine ⟨io,icap,ko,kcap,e,a1,a2,a3,a4,a5,a6,a7,hk,fun h0=> ?_⟩;obtain ⟨b,off,e2,hl,hc⟩:=hi h0;refine ⟨b,off,e2,hl,fun i hil=> ?_⟩;obtain ⟨v0,v1,v2,v3,v4,c,ht⟩:=hc i hil;exact ⟨v0,v1,v2,v3,v4,c,InH.up ht⟩
theorem InH.le {W:World} {h h':Nat} {T:VT} {v:Value} (hI:InH W h T v) (hle:h≤h'):InH W h' T v:=by
 obtain ⟨k,rfl⟩:=Nat.exists_eq_add_of_le hle;clear hle
 induction k with
 | zero=>exact hI
 | succ k ih=>exact ih.up
section
variable {H:Type} {enc:TypeId × Value→H} {W:World}
end
end Go.Proofs.YtdjleoglphgdgaaGreatDoor
