import Derived.Test.YtbpopnafcpfifaaGreatDoorM5
import Derived.BigRegion
set_option linter.unusedVariables false
set_option linter.unusedSimpArgs false
namespace Go.Proofs.YtbpopnafcpfifaaGreatDoor
open Go.RowKit
def hxs:ByteArray:=⟨#[48,49,50,51,52,53,54,55,56,57,97,98,99,100,101,102]⟩
def hx (i:Nat):UInt8:=hxs.data.toList.getD i 0
def unit (n:Nat):List UInt8:=[92,117,hx (n / 4096),hx (n / 256%16),hx (n / 16%16),hx (n%16)]
def esc (n:Nat):List UInt8:=if n<65536 then unit n else unit (55296+(n-65536) / 1024)++unit (56320+(n-65536)%1024)
def rn (r:Int):Nat:=if Lib.validRune r then r.toNat else 65533
theorem rn_lt (r:Int):rn r≤1114111∧¬ (55296≤rn r∧rn r≤57343):=by
 unfold rn Lib.validRune
 split
 · rename_i h
   simp only [decide_eq_true_eq] at h;omega
 · omega
end Go.Proofs.YtbpopnafcpfifaaGreatDoor
