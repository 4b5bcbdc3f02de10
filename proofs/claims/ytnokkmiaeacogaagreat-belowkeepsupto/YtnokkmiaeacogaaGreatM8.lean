import Derived.Test.YtnokkmiaeacogaaGreatM7
set_option linter.unusedVariables false
namespace Go.Proofs.YtnokkmiaeacogaaGreat
open Go.RowKit
structure AskBx (W:World) (B:Nat) (b0 b1 b2 b3:Bool) (no:Option Addr) (nn nc:Nat) (b5:Bool) (xo:Option Addr) (nx xc:Nat) (ao:Option Addr) (NA ac:Nat) (oo:Option Addr) (NO oc:Nat):Prop where
 nine:C9 W B 0 (.bool b0) (.bool b1) (.bool b2) (.bool b3) (.slice no nn nc) (.bool b5) (.slice xo nx xc) (.slice ao NA ac) (.slice oo NO oc)
 lt:B<W.heap.size
theorem AskBx.keep {W W':World} {B:Nat} {b0 b1 b2 b3:Bool} {no:Option Addr} {nn nc:Nat} {b5:Bool} {xo:Option Addr} {nx xc:Nat} {ao:Option Addr} {NA ac:Nat} {oo:Option Addr} {NO oc:Nat} (x:AskBx W B b0 b1 b2 b3 no nn nc b5 xo nx xc ao NA ac oo NO oc) (hb:Below W.heap.size W W'):AskBx W' B b0 b1 b2 b3 no nn nc b5 xo nx xc ao NA ac oo NO oc:=
 ⟨x.nine.keep hb x.lt,Nat.lt_of_lt_of_le x.lt hb.size⟩
end Go.Proofs.YtnokkmiaeacogaaGreat
