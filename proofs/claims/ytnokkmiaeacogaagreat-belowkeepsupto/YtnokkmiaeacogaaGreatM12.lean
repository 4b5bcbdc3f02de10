import Derived.Test.YtnokkmiaeacogaaGreatM6
import Derived.WideKeyArgs
import Derived.WideKeyElems4
import Derived.Deep.Slices
import Derived.OpenShut
import Derived.WalkKit
set_option linter.unusedVariables false
namespace Go.Proofs.YtnokkmiaeacogaaGreat
open Go.ChangeShapes Go.WideShapes Go.RowKit
theorem g_cells9:Tryz.prog.cellsOf 9=1:=by kernel_rfl
theorem g_cells3:Tryz.prog.cellsOf 3=1:=by kernel_rfl
section
variable {H:Type} {enc:TypeId × Value→H} {W:World}
end
instance:Inhabited VT:=⟨.mk 0 .empty .empty [] []⟩
theorem InH.up {W:World}:∀ {h:Nat} {T:VT} {v:Value},InH W h T v→InH W (h+1) T v
 | 0,_,_,h=>h.elim
 | h+1,T,v,hI=>by
  obtain ⟨io,icap,ko,kcap,e,a1,a2,a3,a4,a5,a6,a7,hk,hi⟩:=hI;refine ⟨io,icap,ko,kcap,e,a1,a2,a3,a4,a5,a6,a7,hk,fun h0=> ?_⟩;obtain ⟨b,off,e2,hl,hc⟩:=hi h0;refine ⟨b,off,e2,hl,fun i hil=> ?_⟩;obtain ⟨v0,v1,v2,v3,v4,c,ht⟩:=hc i hil;exact ⟨v0,v1,v2,v3,v4,c,InH.up ht⟩
theorem InH.le {W:World} {h h':Nat} {T:VT} {v:Value} (hI:InH W h T v) (hle:h≤h'):InH W h' T v:=by
 obtain ⟨k,rfl⟩:=Nat.exists_eq_add_of_le hle;clear hle
 induction k with
 | zero=>exact hI
 | succ k ih=>exact ih.up
section
variable {H:Type} {enc:TypeId × Value→H} {W:World}
theorem elems_open {t e:TypeId} {fuel:Nat} {cs:List Value} {x:DataW H × List MemPlace} (ht:Tryz.prog.underlying t=some (.slice e)) (h:DataW.trod enc Tryz.prog W 0 (fun _=>true) true fuel t cs=some x):
 (cs=[.slice none 0 0]∧x.1= .nil)∨∃ (a:Addr) (len cap n:Nat) (elems sp:List (DataW H)),fuel=n+1∧cs=[.slice (some a) len cap]∧len≤cap∧elems.length=len∧x.1= .slice elems sp∧
  ∀ i,(hi:i<elems.length)→∃ cs' ps,W.cells? 0 (a.add (i*Tryz.prog.cellsOf e)) (Tryz.prog.cellsOf e)=some cs'∧DataW.trod enc Tryz.prog W 0 (fun _=>true) true n e cs'=some (elems[i],ps):=by
 rcases DataW.trod_slice ht h with ⟨h0,h1⟩|⟨a,len,cap,elems,rest,n,hf,hc,hx,hb,hl,hm,hlen,hel,hsp,hns⟩
 · exact .inl ⟨h0,by rw [h1]⟩
 · refine .inr ⟨a,len,cap,n,elems.map (·.1),rest.map (·.1),hf,hc,hl,by simpa using hlen,by rw [hx],fun i hi=> ?_⟩;have hi':i<elems.length:=by simpa using hi
   have key:=hel i (by omega);rw [List.getElem?_eq_getElem hi'] at key;obtain ⟨cs',h1,h2⟩:=Option.bind_eq_some_iff.1 key;exact ⟨cs',elems[i].2,h1,by rw [h2];simp⟩
end
end Go.Proofs.YtnokkmiaeacogaaGreat
