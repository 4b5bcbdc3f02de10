import Derived.Test.YtdjleoglphgdgaaGreatDoorM4
import Derived.Test.YtdjleoglphgdgaaGreatDoorM50
import Derived.Test.YtdjleoglphgdgaaGreatDoorM13
set_option linter.unusedVariables false
set_option linter.unusedSimpArgs false
namespace Go.Proofs.YtdjleoglphgdgaaGreatDoor
open Go.RowKit Go.Shelf Go.Sort
def pTab:List (List UInt8 × Nat × Nat × Nat):=[([],0,0,0),([],0,0,0),([],0,0,0),([],0,0,0),([],0,0,0),([],0,0,0),([],0,0,0),([],0,0,0),([],0,0,0),([],0,0,0),([],0,0,0),([],0,0,0),([32,124,32],0,1,0),([44,32],1,1,2),([32,43,32],7,7,8),([32,45,32],7,7,8),([32,42,32],8,8,9),([32,47,32],8,8,9),([32,37,32],8,8,9),([32,61,61,32],6,7,7),([32,33,61,32],6,7,7),([32,60,32],6,7,7),([32,60,61,32],6,7,7),([32,62,32],6,7,7),([32,62,61,32],6,7,7),([32,97,110,100,32],5,5,6),([32,111,114,32],4,4,5),([32,47,47,32],3,4,3),([],0,0,0),([],0,0,0),([],0,0,0),([],0,0,0),([],0,0,0),([],0,0,0),([],0,0,0),([],0,0,0),([32,61,32],2,3,3),([32,124,61,32],2,3,3),([32,43,61,32],2,3,3),([32,45,61,32],2,3,3),([32,42,61,32],2,3,3),([32,47,61,32],2,3,3),([32,37,61,32],2,3,3),([32,47,47,61,32],2,3,3)]
def pRow (op:Int):List UInt8 × Nat × Nat × Nat:=if op<0 then ([],0,0,0) else pTab.getD op.toNat ([],0,0,0)
def pSg (op:Int):List UInt8:=(pRow op).1
def pLo (A:NT):Int:=if A.op=29∨A.op=32∨A.op=34 then 0 else if A.op=11 then 9 else if A.op=10 then 11-(A.kids.length:Int) else if pSg A.op≠[] then ((pRow A.op).2.1:Int) else 10
def pBr (b:Bool) (x:List UInt8):List UInt8:=if b then [40]++(x++[41]) else x
def pQt (s:ByteArray):List UInt8:=34::(qb (q18 s.data.toList)++[34])
def pPc (s:ByteArray):List UInt8:=qb (q18 s.data.toList)
noncomputable def pKy (s:ByteArray):List UInt8:=if okB s.data.toList=false then [] else if q2k s.data.toList=true then s.data.toList else pQt s
def pCn (V:VT):List UInt8:=if V.kind=0 then [110,117,108,108] else if V.kind=1 then [102,97,108,115,101] else if V.kind=2 then [116,114,117,101] else if V.kind=3 then V.num.data.toList else pQt V.text
def pTx (k:NT):Bool:=decide (k.op=2)&&decide (k.value.kind=4)
def pRw (f:Nat→List UInt8) (n:Nat):List UInt8:=(List.range n).flatMap fun i=>(if 0<i then [59,32] else [])++f i
def pHd (t:List UInt8) (k:NT) (n:Int):List UInt8:=pBr (decide (pLo k<n)) t
def pBs (t:List UInt8) (k:NT):List UInt8:=pHd t k (if k.op=2∧k.value.kind=3 then 11 else 10)
def pEn (t:List UInt8) (k:NT):List UInt8:=if k.op=0 then [] else t
noncomputable def pKe (t:List UInt8) (k:NT):List UInt8:=if pTx k=true then pKy k.value.text else if k.op=3 then t else pHd t k 11
def pNm (ns:List ByteArray):List UInt8:=Lib.join (ns.map (·.data.toList)) [59,32]
def sJoin (K:Nat→NT) (t:Nat→List UInt8) (n:Nat):List UInt8:=[34]++(((List.range n).flatMap fun i=>if i%2=0 then pPc (K i).value.text else [92,40]++(t i++[41]))++[34])
def sList (t:Nat→List UInt8) (n:Nat):List UInt8:=[91]++(pRw t n++[93])
noncomputable def sRecord (K:Nat→NT) (t:Nat→List UInt8) (n:Nat):List UInt8:=[123]++(((List.range n).flatMap fun i=>(if 0<i then [44,32] else [])++(pKe (t (2*i)) (K (2*i))++([58,32]++pHd (t (2*i+1)) (K (2*i+1)) 3)))++[125])
def sVar (op:Int) (x:ByteArray):List UInt8:=(if op=35 then [98,114,101,97,107,32] else [])++([36]++x.data.toList)
noncomputable def sIndex (K:Nat→NT) (t:Nat→List UInt8):List UInt8:=pBs (t 0) (K 0)++(if pTx (K 1)=true∧q2k (K 1).value.text.data.toList=true then (if (K 0).op=1 then [] else [46])++(K 1).value.text.data.toList else [91]++(t 1++[93]))
def sSlice (K:Nat→NT) (t:Nat→List UInt8):List UInt8:=pBs (t 0) (K 0)++([91]++(pEn (t 1) (K 1)++([58]++(pEn (t 2) (K 2)++[93]))))
def sEach (K:Nat→NT) (t:Nat→List UInt8):List UInt8:=pBs (t 0) (K 0)++[91,93]
def sTry (K:Nat→NT) (t:Nat→List UInt8) (n:Nat):List UInt8:=if n=1 then pBs (t 0) (K 0)++[63] else [116,114,121,32]++(pHd (t 0) (K 0) 10++([32,99,97,116,99,104,32]++pHd (t 1) (K 1) 10))
def sNeg (K:Nat→NT) (t:Nat→List UInt8):List UInt8:=[45]++((if (K 0).op=11 then [32] else [])++pHd (t 0) (K 0) 9)
def sIf (t:Nat→List UInt8):List UInt8:=[105,102,32]++(t 0++([32,116,104,101,110,32]++(t 1++([32,101,108,115,101,32]++(t 2++[32,101,110,100])))))
def sSrc (K:Nat→NT) (t:Nat→List UInt8) (x:ByteArray):List UInt8:=pHd (t 0) (K 0) 10++([32,97,115,32,36]++(x.data.toList++[32]))
def sBind (K:Nat→NT) (t:Nat→List UInt8) (x:ByteArray):List UInt8:=sSrc K t x++([124,32]++t 1)
def sLoop (op:Int) (K:Nat→NT) (t:Nat→List UInt8) (x:ByteArray) (n:Nat):List UInt8:=(if op=31 then [102,111,114,101,97,99,104,32] else [114,101,100,117,99,101,32])++(sSrc K t x++([40]++(pRw (fun i=>t (i+1)) (n-1)++[41])))
def sDef (t:Nat→List UInt8) (x:ByteArray) (ns:List ByteArray):List UInt8:=([100,101,102,32]++x.data.toList)++((if ns.length=0 then [] else [40]++(pNm ns++[41]))++([58,32]++pRw t 2))
def sCall (t:Nat→List UInt8) (x:ByteArray) (n:Nat):List UInt8:=x.data.toList++(if n=0 then [] else [40]++(pRw t n++[41]))
def sLabel (t:Nat→List UInt8) (x:ByteArray):List UInt8:=([108,97,98,101,108,32,36]++(x.data.toList++[32,124,32]))++t 0
def sOp (op:Int) (K:Nat→NT) (t:Nat→List UInt8):List UInt8:=pHd (t 0) (K 0) ((pRow op).2.2.1:Int)++(pSg op++pHd (t 1) (K 1) ((pRow op).2.2.2:Int))
noncomputable def shT:Nat→NT→List UInt8
 | 0,_=>[]
 | h+1,A=>
  let K:=fun i=>A.kids.getD i nn0
  let t:=fun i=>shT h (A.kids.getD i nn0)
  if A.op=1 then [46] else if A.op=2 then pCn A.value else if A.op=3 then sJoin K t A.kids.length else if A.op=4 then sList t A.kids.length
  else if A.op=5 then sRecord K t (A.kids.length / 2) else if A.op=6∨A.op=35 then sVar A.op A.text else if A.op=7 then sIndex K t else if A.op=8 then sSlice K t
  else if A.op=9 then sEach K t else if A.op=10 then sTry K t A.kids.length else if A.op=11 then sNeg K t else if A.op=28 then sIf t else if A.op=29 then sBind K t A.text
  else if A.op=30∨A.op=31 then sLoop A.op K t A.text A.kids.length else if A.op=32 then sDef t A.text A.names else if A.op=33 then sCall t A.text A.kids.length
  else if A.op=34 then sLabel t A.text else sOp A.op K t
theorem shT_up (h:Nat) (A:NT):shT (h+1) A=(
 let K:=fun i=>A.kids.getD i nn0
 let t:=fun i=>shT h (A.kids.getD i nn0)
 if A.op=1 then [46] else if A.op=2 then pCn A.value else if A.op=3 then sJoin K t A.kids.length else if A.op=4 then sList t A.kids.length
 else if A.op=5 then sRecord K t (A.kids.length / 2) else if A.op=6∨A.op=35 then sVar A.op A.text else if A.op=7 then sIndex K t else if A.op=8 then sSlice K t
 else if A.op=9 then sEach K t else if A.op=10 then sTry K t A.kids.length else if A.op=11 then sNeg K t else if A.op=28 then sIf t else if A.op=29 then sBind K t A.text
 else if A.op=30∨A.op=31 then sLoop A.op K t A.text A.kids.length else if A.op=32 then sDef t A.text A.names else if A.op=33 then sCall t A.text A.kids.length
 else if A.op=34 then sLabel t A.text else sOp A.op K t):=by rw [shT]
end Go.Proofs.YtdjleoglphgdgaaGreatDoor
