import Derived.Test.YtdjleoglphgdgaaGreatDoorM9
import Derived.Deep.AppendLies
set_option linter.unusedVariables false
set_option linter.unusedSimpArgs false
namespace Go.Proofs.YtdjleoglphgdgaaGreatDoor
open Go.RowKit
def Ints (k:IntKind) (w:World) (v:Value) (xs:List Int):Prop:=
 ∃ (ao:Option Addr) (cap:Nat),v= .slice ao xs.length cap∧xs.length≤cap∧(0<xs.length→∃ b off,ao=some ⟨b,off,none⟩∧b<w.heap.size∧∀ i,i<xs.length→w.cell? ⟨b,off+i,none⟩=some (.int k (xs.getD i 0)))
theorem Ints.keep {k:IntKind} {w w':World} {v:Value} {xs:List Int} (h:Ints k w v xs) (hb:Below w.heap.size w w'):Ints k w' v xs:=by
 obtain ⟨ao,cap,hv,hc,hr⟩:=h;refine ⟨ao,cap,hv,hc,fun hn=> ?_⟩;obtain ⟨b,off,ha,hlt,hcell⟩:=hr hn;refine ⟨b,off,ha,Nat.lt_of_lt_of_le hlt hb.size,fun i hi=> ?_⟩;rw [hb.cell (p:=⟨b,off+i,none⟩) hlt];exact hcell i hi
def ivals (k:IntKind) (xs:List Int):List Value:=xs.map fun (x:Int)=>Value.int k x
theorem take_isnoc (xs:List Int) (k:Nat) (h:k<xs.length):xs.take (k+1)=xs.take k++[xs.getD k 0]:=by
 rw [List.take_succ_eq_append_getElem h,List.getD_eq_getElem?_getD,List.getElem?_eq_getElem h];rfl
structure CopySt (k:IntKind) (e:TypeId) (w wr:World) (v:Value) (xs:List Int) (i:Nat):Prop where
 own:wr.ownsRow w.heap.size e 1 v i (ivals k (xs.take i))
 below:Below w.heap.size w wr
theorem CopySt.next {k:IntKind} {e:TypeId} {w wr w1:World} {v v1:Value} {xs:List Int} {i:Nat} {o:Obj} (h:CopySt k e w wr v xs i) (hi:i<xs.length) (hown:w1.ownsRow w.heap.size e 1 v1 (i+1) (ivals k (xs.take i)++[.int k (xs.getD i 0)])) (hg:(wr.alloc o).grownBy w1 v.ownBlock):CopySt k e w w1 v1 xs (i+1):=by
 refine ⟨?_,q0T h.own h.below.size h.below hg⟩;rw [take_isnoc xs i hi];have:ivals k (xs.take i++[xs.getD i 0])=ivals k (xs.take i)++[.int k (xs.getD i 0)]:=by simp [ivals]
 rw [this];exact hown
end Go.Proofs.YtdjleoglphgdgaaGreatDoor
