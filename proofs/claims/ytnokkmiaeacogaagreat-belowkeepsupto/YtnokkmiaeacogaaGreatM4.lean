import Derived.Test.YtnokkmiaeacogaaGreatM3
import Derived.BigRegion
set_option linter.unusedVariables false
set_option linter.unusedSimpArgs false
namespace Go.Proofs.YtnokkmiaeacogaaGreat
open Go.RowKit
def hxs:ByteArray:=⟨#[48,49,50,51,52,53,54,55,56,57,97,98,99,100,101,102]⟩
def hx (i:Nat):UInt8:=hxs.data.toList.getD i 0
end Go.Proofs.YtnokkmiaeacogaaGreat
