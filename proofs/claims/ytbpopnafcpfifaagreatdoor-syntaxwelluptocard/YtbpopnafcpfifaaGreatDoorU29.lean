import Derived.Test.YtbpopnafcpfifaaGreatDoorU24
import Derived.Test.YtbpopnafcpfifaaGreatDoorU28
set_option linter.unusedVariables false
set_option linter.unusedSimpArgs false
namespace Go.Proofs.YtbpopnafcpfifaaGreatDoor
open Go.RowKit
theorem w_token (B C:Nat) (s:ByteArray) (p:Nat) (v:Value) (op:List Nat) (w:World) (hp:p<s.size) (hs:s.size≤1073741824) (hC:CtW B C s v op w) (hB:B≤C) (hop:∀ x∈op,x≤1099511627776) (hln:op.length≤1099511627776) (hE:ErrIn w):
 Calls Tryz.prog 19 #[.pointer (some ⟨C,0,none⟩),.int .i64 (p:Int)] w fun e w'=>CtP B C s v op (tokW s.data.toList op p) w w' e:=by
 cases hle:leB s[p] with
 | true=>exact w_tokA B C s p v op w hp hs hC hB hop hln hE hle
 | false=>
  by_cases h36:s[p].toNat=36
  · exact w_tokB B C s p v op w hp hs hC hB hop hln hE hle h36
  by_cases h46:s[p].toNat=46
  · by_cases hnm:q0l s.data.toList (p+1)=[]
    · exact w_tokD B C s p v op w hp hs hC hB hop hln hE hle h46 hnm
    · exact w_tokC B C s p v op w hp hs hC hB hop hln hE hle h46 hnm
  cases hdg:dgB s[p] with
  | true=>exact w_tokE B C s p v op w hp hs hC hB hop hln hE hle h36 h46 hdg
  | false=>
   by_cases h34:s[p].toNat=34
   · exact w_tokF B C s p v op w hp hs hC hB hop hln hE hle h36 h46 hdg h34
   by_cases h41:s[p].toNat=41
   · cases hcls:clsB op with
     | true=>exact w_tokG B C s p v op w hp hs hC hB hop hln hE hle h36 h46 hdg h34 h41 hcls
     | false=>exact w_tokH B C s p v op w hp hs hC hB hop hln hE hle h36 h46 hdg h34 h41 hcls
   · exact w_tokI B C s p v op w hp hs hC hB hop hln hE hle h36 h46 hdg h34 h41
end Go.Proofs.YtbpopnafcpfifaaGreatDoor
