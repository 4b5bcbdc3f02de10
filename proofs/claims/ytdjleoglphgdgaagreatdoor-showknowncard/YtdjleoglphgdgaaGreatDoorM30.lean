import Derived.Test.YtdjleoglphgdgaaGreatDoorM28
import Derived.Test.YtdjleoglphgdgaaGreatDoorM22
import Derived.Test.YtdjleoglphgdgaaGreatDoorM15
set_option linter.unusedVariables false
set_option linter.unusedSimpArgs false
namespace Go.Proofs.YtdjleoglphgdgaaGreatDoor
open Go.RowKit Go.Shelf
set_option maxRecDepth 100000
set_option maxHeartbeats 12800000
structure Bt (I:Nat) (w w':World):Prop where
 os:w'.os=w.os
 tape:w'.tape=w.tape
 output:w'.output=w.output
 size:w.heap.size≤w'.heap.size
 block:∀ k,k<w.heap.size→k≠I→w'.heap[k]? =w.heap[k]?
theorem Bt.of {I:Nat} {w w':World} (h:Below w.heap.size w w'):Bt I w w':=⟨h.os,h.tape,h.output,h.size,fun k hk _=>h.block k hk⟩
theorem Bt.refl (I:Nat) (w:World):Bt I w w:=Bt.of (Below.refl _ _)
theorem Bt.trans {I:Nat} {a b c:World} (h:Bt I a b) (k:Bt I b c):Bt I a c:=
 ⟨k.os.trans h.os,k.tape.trans h.tape,k.output.trans h.output,Nat.le_trans h.size k.size,fun i hi hn=>(k.block i (Nat.lt_of_lt_of_le hi h.size) hn).trans (h.block i hi hn)⟩
theorem Bt.below {I n:Nat} {w w':World} (h:Bt I w w') (hn:n≤w.heap.size) (hI:n≤I):Below n w w':=⟨h.os,h.tape,h.output,h.size,fun k hk=>h.block k (by omega) (by omega)⟩
theorem Bt.step {I n:Nat} {w a b:World} (h:Bt I w a) (hn:w.heap.size≤n) (k:Below n a b):Bt I w b:=
 ⟨k.os.trans h.os,k.tape.trans h.tape,k.output.trans h.output,Nat.le_trans h.size k.size,fun i hi hne=>(k.block i (by omega)).trans (h.block i hi hne)⟩
theorem Bt.set {I:Nat} {w a:World} (h:Bt I w a) (j:Nat) (v:Value):Bt I w (a.setCell ⟨I,j,none⟩ v):=
 ⟨h.os,h.tape,h.output,by simp [World.setCell];exact h.size,fun k hk hn=>(Below.heap_setCell _ _ _ _ hn).trans (h.block k hk hn)⟩
theorem Bt.alloc {I:Nat} {w a:World} (h:Bt I w a) (o:Obj):Bt I w (a.alloc o):=h.step (n:=a.heap.size) h.size ((Below.refl _ _).alloc (Nat.le_refl _) o)
def InV (D:Nat→Prop) (W:World):Nat→VT→Value→Prop
 | 0,_,_=>False
 | h+1,T,v=>∃ (io:Option Addr) (icap:Nat) (ko:Option Addr) (kcap:Nat),
    v= .agg #[.int .i64 T.kind,.string T.num,.string T.text,.slice io T.items.length icap,.slice ko T.keys.length kcap]∧
    T.num.size≤140737488355328∧T.text.size≤140737488355328∧T.items.length≤140737488355328∧T.keys.length≤140737488355328∧T.items.length≤icap∧T.keys.length≤kcap∧
    (∀ k∈T.keys,k.size≤140737488355328)∧
    (0<T.keys.length→∃ b off,ko=some ⟨b,off,none⟩∧D b∧b<W.heap.size∧∀ i,i<T.keys.length→W.cell? ⟨b,off+i,none⟩=some (.string (T.keys.getD i .empty)))∧
    (0<T.items.length→∃ b off,io=some ⟨b,off,none⟩∧D b∧b<W.heap.size∧∀ i,(hi:i<T.items.length)→∃ v0 v1 v2 v3 v4:Value,
     (W.cell? ⟨b,off+i*5,none⟩=some v0∧W.cell? ⟨b,off+i*5+1,none⟩=some v1∧W.cell? ⟨b,off+i*5+2,none⟩=some v2∧W.cell? ⟨b,off+i*5+3,none⟩=some v3∧W.cell? ⟨b,off+i*5+4,none⟩=some v4)∧InV D W h T.items[i] (.agg #[v0,v1,v2,v3,v4]))
theorem InV.keep {D D':Nat→Prop} {W W':World} (hz:W.heap.size≤W'.heap.size) (hs:∀ b,D b→b<W.heap.size→W'.heap[b]? =W.heap[b]?) (hlo:∀ b,D b→b<W.heap.size→D' b):∀ {h:Nat} {T:VT} {v:Value},InV D W h T v→InV D' W' h T v
 | 0,_,_,h=>h
 | h+1,T,v,hI=>by
  obtain ⟨io,icap,ko,kcap,e,a1,a2,a3,a4,a5,a6,a7,hk,hi⟩:=hI;have cc:∀ b o u,D b→b<W.heap.size→W.cell? ⟨b,o,none⟩=some u→W'.cell? ⟨b,o,none⟩=some u:=fun b o u h1 h2 h3=>(World.cell?_of_block (a:=⟨b,o,none⟩) (hs b h1 h2)).trans h3;refine ⟨io,icap,ko,kcap,e,a1,a2,a3,a4,a5,a6,a7,fun h0=> ?_,fun h0=> ?_⟩
  · obtain ⟨b,off,e2,hb,hl,hc⟩:=hk h0;exact ⟨b,off,e2,hlo b hb hl,Nat.lt_of_lt_of_le hl hz,fun i hi=>cc _ _ _ hb hl (hc i hi)⟩
  · obtain ⟨b,off,e2,hb,hl,hc⟩:=hi h0;refine ⟨b,off,e2,hlo b hb hl,Nat.lt_of_lt_of_le hl hz,fun i hil=> ?_⟩;obtain ⟨v0,v1,v2,v3,v4,⟨c0,c1,c2,c3,c4⟩,ht⟩:=hc i hil;exact ⟨v0,v1,v2,v3,v4,⟨cc _ _ _ hb hl c0,cc _ _ _ hb hl c1,cc _ _ _ hb hl c2,cc _ _ _ hb hl c3,cc _ _ _ hb hl c4⟩,InV.keep hz hs hlo ht⟩
theorem InV.ofH {W:World}:∀ {h:Nat} {T:VT} {v:Value},InH W h T v→InV (fun _=>True) W h T v
 | 0,_,_,h=>h
 | h+1,T,v,hI=>by
  obtain ⟨io,icap,ko,kcap,e,a1,a2,a3,a4,a5,a6,a7,⟨hk⟩,hi⟩:=hI;refine ⟨io,icap,ko,kcap,e,a1,a2,a3,a4,a5,a6,a7,fun h0=> ?_,fun h0=> ?_⟩
  · obtain ⟨b,off,e2,hl,hc⟩:=hk h0;exact ⟨b,off,e2,trivial,hl,hc⟩
  · obtain ⟨b,off,e2,hl,hc⟩:=hi h0;refine ⟨b,off,e2,trivial,hl,fun i hil=> ?_⟩;obtain ⟨v0,v1,v2,v3,v4,c,ht⟩:=hc i hil;exact ⟨v0,v1,v2,v3,v4,c,InV.ofH ht⟩
theorem InV.toH {D:Nat→Prop} {W:World}:∀ {h:Nat} {T:VT} {v:Value},InV D W h T v→InH W h T v
 | 0,_,_,h=>h
 | h+1,T,v,hI=>by
  obtain ⟨io,icap,ko,kcap,e,a1,a2,a3,a4,a5,a6,a7,hk,hi⟩:=hI;refine ⟨io,icap,ko,kcap,e,a1,a2,a3,a4,a5,a6,a7,⟨fun h0=> ?_⟩,fun h0=> ?_⟩
  · obtain ⟨b,off,e2,_,hl,hc⟩:=hk h0;exact ⟨b,off,e2,hl,hc⟩
  · obtain ⟨b,off,e2,_,hl,hc⟩:=hi h0;refine ⟨b,off,e2,hl,fun i hil=> ?_⟩;obtain ⟨v0,v1,v2,v3,v4,c,ht⟩:=hc i hil;exact ⟨v0,v1,v2,v3,v4,c,InV.toH ht⟩
inductive NT where
 | mk (op at_:Int) (text:ByteArray) (value:VT) (names:List ByteArray) (kids:List NT)
def NT.op:NT→Int| .mk a _ _ _ _ _=>a
def NT.at_:NT→Int| .mk _ a _ _ _ _=>a
def NT.text:NT→ByteArray| .mk _ _ a _ _ _=>a
def NT.value:NT→VT| .mk _ _ _ a _ _=>a
def NT.names:NT→List ByteArray| .mk _ _ _ _ a _=>a
def NT.kids:NT→List NT| .mk _ _ _ _ _ a=>a
def ndV (c:Fin 10→Value):Value:= .agg #[c 0,c 1,c 2,c 3,c 4,c 5,c 6,c 7,c 8,c 9]
def InN (D:Nat→Prop) (W:World):Nat→NT→Value→Prop
 | 0,_,_=>False
 | h+1,T,v=>∃ (io:Option Addr) (icap:Nat) (yo:Option Addr) (ycap:Nat) (no:Option Addr) (nc:Nat) (ko:Option Addr) (kc:Nat),
    v= .agg #[.int .i64 T.op,.int .i64 T.at_,.string T.text,.int .i64 T.value.kind,.string T.value.num,.string T.value.text,.slice io T.value.items.length icap,.slice yo T.value.keys.length ycap,.slice no T.names.length nc,.slice ko T.kids.length kc]∧
    T.text.size≤140737488355328∧InV D W (h+1) T.value (.agg #[.int .i64 T.value.kind,.string T.value.num,.string T.value.text,.slice io T.value.items.length icap,.slice yo T.value.keys.length ycap])∧
    (T.names.length≤nc∧T.names.length≤140737488355328∧∀ k∈T.names,k.size≤140737488355328)∧
    (T.kids.length≤kc∧T.kids.length≤140737488355328)∧
    (0<T.names.length→∃ b off,no=some ⟨b,off,none⟩∧D b∧b<W.heap.size∧∀ i,i<T.names.length→W.cell? ⟨b,off+i,none⟩=some (.string (T.names.getD i .empty)))∧
    (0<T.kids.length→∃ b off,ko=some ⟨b,off,none⟩∧D b∧b<W.heap.size∧∀ i,(hi:i<T.kids.length)→∃ c:Fin 10→Value,
     (∀ j:Fin 10,W.cell? ⟨b,off+i*10+j.1,none⟩=some (c j))∧InN D W h T.kids[i] (ndV c))
theorem InN.keep {D D':Nat→Prop} {W W':World} (hz:W.heap.size≤W'.heap.size) (hs:∀ b,D b→b<W.heap.size→W'.heap[b]? =W.heap[b]?) (hlo:∀ b,D b→b<W.heap.size→D' b):∀ {h:Nat} {T:NT} {v:Value},InN D W h T v→InN D' W' h T v
 | 0,_,_,h=>h
 | h+1,T,v,hI=>by
  obtain ⟨io,icap,yo,ycap,no,nc,ko,kc,e,a1,a2,a3,a4,hn,hk⟩:=hI;have cc:∀ b o u,D b→b<W.heap.size→W.cell? ⟨b,o,none⟩=some u→W'.cell? ⟨b,o,none⟩=some u:=fun b o u h1 h2 h3=>(World.cell?_of_block (a:=⟨b,o,none⟩) (hs b h1 h2)).trans h3;refine ⟨io,icap,yo,ycap,no,nc,ko,kc,e,a1,a2.keep hz hs hlo,a3,a4,fun h0=> ?_,fun h0=> ?_⟩
  · obtain ⟨b,off,e2,hb,hl,hc⟩:=hn h0;exact ⟨b,off,e2,hlo b hb hl,Nat.lt_of_lt_of_le hl hz,fun i hi=>cc _ _ _ hb hl (hc i hi)⟩
  · obtain ⟨b,off,e2,hb,hl,hc⟩:=hk h0;refine ⟨b,off,e2,hlo b hb hl,Nat.lt_of_lt_of_le hl hz,fun i hil=> ?_⟩;obtain ⟨c,h1,ht⟩:=hc i hil;exact ⟨c,fun j=>cc _ _ _ hb hl (h1 j),InN.keep hz hs hlo ht⟩
theorem InV.up {D:Nat→Prop} {W:World}:∀ {h:Nat} {T:VT} {v:Value},InV D W h T v→InV D W (h+1) T v
 | 0,_,_,h=>h.elim
 | h+1,T,v,hI=>by
  obtain ⟨io,icap,ko,kcap,e,a1,a2,a3,a4,a5,a6,a7,hk,hi⟩:=hI;refine ⟨io,icap,ko,kcap,e,a1,a2,a3,a4,a5,a6,a7,hk,fun h0=> ?_⟩;obtain ⟨b,off,e2,hb,hl,hc⟩:=hi h0;refine ⟨b,off,e2,hb,hl,fun i hil=> ?_⟩;obtain ⟨v0,v1,v2,v3,v4,c,ht⟩:=hc i hil;exact ⟨v0,v1,v2,v3,v4,c,ht.up⟩
theorem InN.up {D:Nat→Prop} {W:World}:∀ {h:Nat} {T:NT} {v:Value},InN D W h T v→InN D W (h+1) T v
 | 0,_,_,h=>h.elim
 | h+1,T,v,hI=>by
  obtain ⟨io,icap,yo,ycap,no,nc,ko,kc,e,a1,a2,a3,a4,hn,hk⟩:=hI;refine ⟨io,icap,yo,ycap,no,nc,ko,kc,e,a1,a2.up,a3,a4,hn,fun h0=> ?_⟩;obtain ⟨b,off,e2,hb,hl,hc⟩:=hk h0;refine ⟨b,off,e2,hb,hl,fun i hil=> ?_⟩;obtain ⟨c,h1,ht⟩:=hc i hil;exact ⟨c,h1,ht.up⟩
theorem InN.le {D:Nat→Prop} {W:World} {h h':Nat} {T:NT} {v:Value} (hI:InN D W h T v) (hle:h≤h'):InN D W h' T v:=by
 obtain ⟨k,rfl⟩:=Nat.exists_eq_add_of_le hle;clear hle
 induction k with
 | zero=>exact hI
 | succ k ih=>exact ih.up
def fcs (e q:Nat):List PanicEntry:=[{ v:= .iface 60 (.agg #[.int .i64 (e:Int),.int .i64 (q:Int)]),recovered:=false }]
structure PAt (W:World) (B:Nat) (so:Option Addr) (sc:Nat) (ws:List Tok) (nb t o:Nat):Prop where
 box:W.heap[B]? =some (.cells #[.slice so ws.length sc,.int .i64 (t:Int),.int .i64 (nb:Int),.int .i64 (o:Int)] 66 (0,0))
 row:TRow W so ws
 cap:ws.length≤sc
 apart:∀ g off,so=some ⟨g,off,none⟩→g≠B
 few:ws.length≤16777216
 le:t≤ws.length
 open_:o≤64
theorem PAt.lt {W:World} {B:Nat} {so:Option Addr} {sc:Nat} {ws:List Tok} {nb t o:Nat} (h:PAt W B so sc ws nb t o):B<W.heap.size:=(Array.getElem?_eq_some_iff.1 h.box).1
theorem TRow.bt {W W':World} {B:Nat} {so:Option Addr} {ws:List Tok} (h:TRow W so ws) (ha:∀ g off,so=some ⟨g,off,none⟩→g≠B) (hb:Bt B W W'):TRow W' so ws:=fun i hi=>by
 obtain ⟨g,off,e,hl,c0,c1,c2,c3⟩:=h i hi;have hg:=hb.block g hl (ha g off e);have cc:∀ o u,W.cell? ⟨g,o,none⟩=some u→W'.cell? ⟨g,o,none⟩=some u:=fun o u h3=>(World.cell?_of_block (a:=⟨g,o,none⟩) hg).trans h3;exact ⟨g,off,e,Nat.lt_of_lt_of_le hl hb.size,cc _ _ c0,cc _ _ c1,cc _ _ c2,cc _ _ c3⟩
theorem PAt.keep {W W':World} {B:Nat} {so:Option Addr} {sc:Nat} {ws:List Tok} {nb t o:Nat} (h:PAt W B so sc ws nb t o) (hb:Below W.heap.size W W'):PAt W' B so sc ws nb t o:=
 ⟨(hb.block B h.lt).trans h.box,h.row.bt h.apart (Bt.of hb),h.cap,h.apart,h.few,h.le,h.open_⟩
theorem PAt.alloc {W:World} {B:Nat} {so:Option Addr} {sc:Nat} {ws:List Tok} {nb t o:Nat} (h:PAt W B so sc ws nb t o) (x:Obj):PAt (W.alloc x) B so sc ws nb t o:=h.keep ((Below.refl _ _).alloc (Nat.le_refl _) x)
end Go.Proofs.YtdjleoglphgdgaaGreatDoor
namespace Go.Proofs.YtdjleoglphgdgaaGreatDoor
open Go.RowKit Go.Shelf
attribute [local go_sem] Oper.semAt_some
set_option maxRecDepth 100000
set_option maxHeartbeats 12800000
theorem hrP_end (ws:List Tok):hrP ws ws.length=⟨0,0,0,[],0⟩:=by unfold hrP;simp
theorem hrP_at {ws:List Tok} {t:Nat} (h:t<ws.length):hrP ws t=ws[t]:=by unfold hrP;rw [List.getD_eq_getElem?_getD,List.getElem?_eq_getElem h];rfl
theorem w_here {B:Nat} {so:Option Addr} {sc:Nat} {ws:List Tok} {nb t o:Nat} (w:World) (hP:PAt w B so sc ws nb t o):
 Calls Tryz.prog 158 #[.pointer (some ⟨B,0,none⟩)] w fun e w'=>e= .returned (tokV (hrP ws t))∧Below w.heap.size w w':=by
 obtain ⟨c0,c1,c2,c3,_⟩:=q06 hP.box;have hle:=hP.le;have hfew:=hP.few;have hcap:=hP.cap;have hBl:=hP.lt;have a0:∀ x,(w.alloc x).cell? ⟨B,0,none⟩=some (.slice so ws.length sc):=fun x=>(q06 (hP.alloc x).box).1;have a1:∀ x,(w.alloc x).cell? ⟨B,1,none⟩=some (.int .i64 (t:Int)):=fun x=>(q06 (hP.alloc x).box).2.1;by_cases h:t=ws.length
 · have hr:hrP ws t=⟨0,0,0,[],0⟩:=by rw [h];exact hrP_end ws
   rw [hr];have hb:((t:Int)==(ws.length:Int))=true:=by simp [h]
   clear hP h hr;go_in;go_wp2_with fail
   go_region
   all_goals go_wp2_with fail
   all_goals (try go_region)
   all_goals (try go_wp2_with fail)
   refine ⟨rfl,tokV ⟨0,0,0,[],0⟩,by simp [tokV,results,Tryz.results158,go_sem],rfl,?_⟩
   first|exact (q0a w _).drew|exact (q0a w _).drew.drew
 · have hlt:t<ws.length:=by omega
   obtain ⟨g,off,rfl,hg,d0',d1',d2',d3'⟩:=hP.row t hlt;have d0:∀ x,(w.alloc x).cell? ⟨g,off+t*4,none⟩=some (.int .i64 (ws[t].kind:Int)):=fun x=>((Below.refl _ w).alloc (Nat.le_refl _) x).cell (p:=⟨_,_,_⟩) hg |>.trans d0';have d1:∀ x,(w.alloc x).cell? ⟨g,off+t*4+1,none⟩=some (.int .i64 (ws[t].at_:Int)):=fun x=>((Below.refl _ w).alloc (Nat.le_refl _) x).cell (p:=⟨_,_,_⟩) hg |>.trans d1';have d2:∀ x,(w.alloc x).cell? ⟨g,off+t*4+2,none⟩=some (.int .i64 (ws[t].fin:Int)):=fun x=>((Below.refl _ w).alloc (Nat.le_refl _) x).cell (p:=⟨_,_,_⟩) hg |>.trans d2';have d3:∀ x,(w.alloc x).cell? ⟨g,off+t*4+3,none⟩=some (.string ⟨ws[t].text.toArray⟩):=fun x=>((Below.refl _ w).alloc (Nat.le_refl _) x).cell (p:=⟨_,_,_⟩) hg |>.trans d3';clear d0' d1' d2' d3';rw [hrP_at hlt];have hb:((t:Int)==(ws.length:Int))=false:=by rw [bqZ];omega
   have hlt2:(t:Int)<(ws.length:Int):=by omega
   clear hP h;generalize ws[t]=T at *;generalize ws.length=N at *;obtain ⟨kd,pa,fi,tx,er⟩:=T;dsimp only at d0 d1 d2 d3;go_in;go_wp2_with fail
   go_region
   all_goals go_wp2_with fail
   all_goals (try go_region)
   all_goals (try go_wp2_with fail)
   refine ⟨rfl,tokV ⟨kd,pa,fi,tx,er⟩,by simp [tokV,results,Tryz.results158,go_sem],rfl,?_⟩
   first|exact (q0a w _).drew|exact (q0a w _).drew.drew
end Go.Proofs.YtdjleoglphgdgaaGreatDoor
namespace Go.Proofs.YtdjleoglphgdgaaGreatDoor
open Go.RowKit Go.Shelf
set_option maxRecDepth 100000
set_option maxHeartbeats 12800000
theorem setN_os (w:World) (a:Addr) (v:Value):(w.setCell a v).os=w.os:=rfl
theorem setN_tape (w:World) (a:Addr) (v:Value):(w.setCell a v).tape=w.tape:=rfl
theorem q2u (w:World) (a:Addr) (v:Value):(w.setCell a v).output=w.output:=rfl
theorem setN_size (w:World) (a:Addr) (v:Value):(w.setCell a v).heap.size=w.heap.size:=by simp
theorem q1u {u:World} {B i:Nat} {c:Array Value} {t:TypeId} (v:Value) (h:u.heap[B]? =some (.cells c t (0,0))):(u.setCell ⟨B,i,none⟩ v).heap[B]? =some (.cells (c.setIfInBounds i v) t (0,0)):=heap_setCell_same u B i c t v h
structure Put (B:Nat) (o:Obj) (w w':World):Prop where
 new:w'.heap[B]? =some o
 rest:∀ b,b≠B→w'.heap[b]? =w.heap[b]?
 size:w'.heap.size=w.heap.size
 os:w'.os=w.os
 tape:w'.tape=w.tape
 output:w'.output=w.output
theorem Put.below {B n:Nat} {o:Obj} {w w':World} (h:Put B o w w') (hn:n≤B):Below n w w':=⟨h.os,h.tape,h.output,by rw [h.size];exact Nat.le_refl _,fun k hk=>h.rest k (by omega)⟩
theorem Put.bt {B I:Nat} {o:Obj} {w a w':World} (h:Put B o a w') (hb:Bt I w a) (hn:w.heap.size≤B):Bt I w w':=hb.step hn (h.below (Nat.le_refl _))
theorem q00 {w:World} {B:Nat} {t:TypeId} {y0 y1 y2 y3 y4 y5 y6 y7 y8 y9:Value} (h:w.heap[B]? =some (.cells #[y0,y1,y2,y3,y4,y5,y6,y7,y8,y9] t (0,0))):
 w.cell? ⟨B,0,none⟩=some y0∧w.cell? ⟨B,1,none⟩=some y1∧w.cell? ⟨B,2,none⟩=some y2∧w.cell? ⟨B,3,none⟩=some y3∧w.cell? ⟨B,4,none⟩=some y4∧w.cell? ⟨B,5,none⟩=some y5∧w.cell? ⟨B,6,none⟩=some y6∧w.cell? ⟨B,7,none⟩=some y7∧w.cell? ⟨B,8,none⟩=some y8∧w.cell? ⟨B,9,none⟩=some y9:=by
 refine ⟨?_,?_,?_,?_,?_,?_,?_,?_,?_,?_⟩ <;> rw [cell_of_row _ _ _ _ _ _ h] <;> rfl
theorem q03 {w:World} {B:Nat} {t:TypeId} {cs:Array Value} (h:w.heap[B]? =some (.cells cs t (0,0))):
 w.frozen? ⟨B,0,none⟩=false∧w.frozen? ⟨B,1,none⟩=false∧w.frozen? ⟨B,2,none⟩=false∧w.frozen? ⟨B,3,none⟩=false∧w.frozen? ⟨B,4,none⟩=false∧w.frozen? ⟨B,5,none⟩=false∧w.frozen? ⟨B,6,none⟩=false∧w.frozen? ⟨B,7,none⟩=false∧w.frozen? ⟨B,8,none⟩=false∧w.frozen? ⟨B,9,none⟩=false:=⟨q0f h,q0f h,q0f h,q0f h,q0f h,q0f h,q0f h,q0f h,q0f h,q0f h⟩
theorem q0J {w:World} {B:Nat} {t:TypeId} {y0 y1 y2 y3 y4 y5 y6 y7 y8 y9 a0 a1 a2 a3 a4 a5 a6 a7 a8 a9:Value} (h:w.heap[B]? =some (.cells #[y0,y1,y2,y3,y4,y5,y6,y7,y8,y9] t (0,0))) {wz:World} (hz:(((((((((w.setCell ⟨B,0,none⟩ a0).setCell ⟨B,1,none⟩ a1).setCell ⟨B,2,none⟩ a2).setCell ⟨B,3,none⟩ a3).setCell ⟨B,4,none⟩ a4).setCell ⟨B,5,none⟩ a5).setCell ⟨B,6,none⟩ a6).setCell ⟨B,7,none⟩ a7).setCell ⟨B,8,none⟩ a8).setCell ⟨B,9,none⟩ a9=wz):
 Put B (.cells #[a0,a1,a2,a3,a4,a5,a6,a7,a8,a9] t (0,0)) w wz:=by
 subst hz;have h0:=q1u (i:=0) a0 h;simp only [List.setIfInBounds_toArray,List.set_cons_zero,List.set_cons_succ] at h0;have h1:=q1u (i:=1) a1 h0;simp only [List.setIfInBounds_toArray,List.set_cons_zero,List.set_cons_succ] at h1;have h2:=q1u (i:=2) a2 h1;simp only [List.setIfInBounds_toArray,List.set_cons_zero,List.set_cons_succ] at h2;have h3:=q1u (i:=3) a3 h2;simp only [List.setIfInBounds_toArray,List.set_cons_zero,List.set_cons_succ] at h3;have h4:=q1u (i:=4) a4 h3;simp only [List.setIfInBounds_toArray,List.set_cons_zero,List.set_cons_succ] at h4;have h5:=q1u (i:=5) a5 h4;simp only [List.setIfInBounds_toArray,List.set_cons_zero,List.set_cons_succ] at h5;have h6:=q1u (i:=6) a6 h5;simp only [List.setIfInBounds_toArray,List.set_cons_zero,List.set_cons_succ] at h6;have h7:=q1u (i:=7) a7 h6;simp only [List.setIfInBounds_toArray,List.set_cons_zero,List.set_cons_succ] at h7;have h8:=q1u (i:=8) a8 h7;simp only [List.setIfInBounds_toArray,List.set_cons_zero,List.set_cons_succ] at h8;have h9:=q1u (i:=9) a9 h8;simp only [List.setIfInBounds_toArray,List.set_cons_zero,List.set_cons_succ] at h9;refine ⟨h9,fun b hb=> ?_,by simp only [setN_size],by simp only [setN_os],by simp only [setN_tape],by simp only [q2u]⟩;rw [Below.heap_setCell _ _ _ _ hb,Below.heap_setCell _ _ _ _ hb,Below.heap_setCell _ _ _ _ hb,Below.heap_setCell _ _ _ _ hb,Below.heap_setCell _ _ _ _ hb,Below.heap_setCell _ _ _ _ hb,Below.heap_setCell _ _ _ _ hb,Below.heap_setCell _ _ _ _ hb,Below.heap_setCell _ _ _ _ hb,Below.heap_setCell _ _ _ _ hb]
theorem q15 {w:World} {B:Nat} {t:TypeId} {y0 y1 y2 y3 y4 y5 y6 y7 y8 y9 a9:Value} (h:w.heap[B]? =some (.cells #[y0,y1,y2,y3,y4,y5,y6,y7,y8,y9] t (0,0))) {wz:World} (hz:w.setCell ⟨B,9,none⟩ a9=wz):
 Put B (.cells #[y0,y1,y2,y3,y4,y5,y6,y7,y8,a9] t (0,0)) w wz:=by
 subst hz;have h9:=q1u (i:=9) a9 h;simp only [List.setIfInBounds_toArray,List.set_cons_zero,List.set_cons_succ] at h9;exact ⟨h9,fun b hb=>Below.heap_setCell _ _ _ _ hb,by simp,rfl,rfl,rfl⟩
theorem q22 {w:World} {B:Nat} {t:TypeId} {y0 y1 y2 y3 a0 a1 a2 a3:Value} (h:w.heap[B]? =some (.cells #[y0,y1,y2,y3] t (0,0))) {wz:World} (hz:(((w.setCell ⟨B,0,none⟩ a0).setCell ⟨B,1,none⟩ a1).setCell ⟨B,2,none⟩ a2).setCell ⟨B,3,none⟩ a3=wz):
 Put B (.cells #[a0,a1,a2,a3] t (0,0)) w wz:=by
 subst hz;have h0:=q1u (i:=0) a0 h;simp only [List.setIfInBounds_toArray,List.set_cons_zero,List.set_cons_succ] at h0;have h1:=q1u (i:=1) a1 h0;simp only [List.setIfInBounds_toArray,List.set_cons_zero,List.set_cons_succ] at h1;have h2:=q1u (i:=2) a2 h1;simp only [List.setIfInBounds_toArray,List.set_cons_zero,List.set_cons_succ] at h2;have h3:=q1u (i:=3) a3 h2;simp only [List.setIfInBounds_toArray,List.set_cons_zero,List.set_cons_succ] at h3;refine ⟨h3,fun b hb=> ?_,by simp only [setN_size],by simp only [setN_os],by simp only [setN_tape],by simp only [q2u]⟩;rw [Below.heap_setCell _ _ _ _ hb,Below.heap_setCell _ _ _ _ hb,Below.heap_setCell _ _ _ _ hb,Below.heap_setCell _ _ _ _ hb]
theorem fb_set {w:World} {B:Nat} {t:TypeId} {y0 y1 a0 a1:Value} (h:w.heap[B]? =some (.cells #[y0,y1] t (0,0))) {wz:World} (hz:(w.setCell ⟨B,0,none⟩ a0).setCell ⟨B,1,none⟩ a1=wz):
 Put B (.cells #[a0,a1] t (0,0)) w wz:=by
 subst hz;have h0:=q1u (i:=0) a0 h;simp only [List.setIfInBounds_toArray,List.set_cons_zero,List.set_cons_succ] at h0;have h1:=q1u (i:=1) a1 h0;simp only [List.setIfInBounds_toArray,List.set_cons_zero,List.set_cons_succ] at h1;refine ⟨h1,fun b hb=> ?_,by simp only [setN_size],by simp only [setN_os],by simp only [setN_tape],by simp only [q2u]⟩;rw [Below.heap_setCell _ _ _ _ hb,Below.heap_setCell _ _ _ _ hb]
theorem q2g {w:World} {B:Nat} {t:TypeId} {y0 y1:Value} (h:w.heap[B]? =some (.cells #[y0,y1] t (0,0))):
 w.cell? ⟨B,0,none⟩=some y0∧w.cell? ⟨B,1,none⟩=some y1∧w.frozen? ⟨B,0,none⟩=false∧w.frozen? ⟨B,1,none⟩=false:=by
 refine ⟨?_,?_,q0f h,q0f h⟩ <;> rw [cell_of_row _ _ _ _ _ _ h] <;> rfl
end Go.Proofs.YtdjleoglphgdgaaGreatDoor
namespace Go.Proofs.YtdjleoglphgdgaaGreatDoor
open Go.RowKit Go.Shelf
attribute [local go_sem] Oper.semAt_some
set_option maxRecDepth 100000
set_option maxHeartbeats 12800000
theorem Tryz.fldT0 (x0 x1 x2 x3:Value) (w:World):(Instr.field 82 (.agg #[x0,x1,x2,x3]) 0).run Tryz.prog w= .ok x0 w:=by kernel_rfl
theorem Tryz.fldT1 (x0 x1 x2 x3:Value) (w:World):(Instr.field 82 (.agg #[x0,x1,x2,x3]) 1).run Tryz.prog w= .ok x1 w:=by kernel_rfl
theorem hereC {B:Nat} {so:Option Addr} {sc:Nat} {ws:List Tok} {nb t o:Nat} {w:World} (hP:PAt w B so sc ws nb t o):Hid (∀ u,Below w.heap.size w u→Calls Tryz.prog 158 #[.pointer (some ⟨B,0,none⟩)] u fun e w'=>e= .returned (tokV (hrP ws t))∧Below u.heap.size u w'):=fun u hb=>w_here u (hP.keep hb)
theorem w_isK {B:Nat} {so:Option Addr} {sc:Nat} {ws:List Tok} {nb t o:Nat} (k:Nat) (w:World) (hP:PAt w B so sc ws nb t o):
 Calls Tryz.prog 237 #[.pointer (some ⟨B,0,none⟩),.int .i64 (k:Int)] w fun e w'=>e= .returned (.bool ((hrP ws t).kind==k))∧Below w.heap.size w w':=by
 have HC:=hereC hP;clear hP;generalize hrP ws t=T at *;obtain ⟨kd,pa,fi,tx,er⟩:=T;unfold tokV at HC;dsimp only at HC ⊢;have hfl:=Tryz.fldT0;by_cases h:kd=k
 · subst h;rw [show (kd==kd)=true by simp];go_in;go_wp2_with fail;refine (HC.out _ (Below.refl _ _)).mono ?_;rintro e w1 ⟨rfl,hb⟩;go_wp2_with fail;go_ret;exact ⟨rfl,hb⟩
 · rw [bqZ.2 h];have h2:((kd:Int)==(k:Int))=false:=by rw [bqZ];omega
   go_in;go_wp2_with fail;refine (HC.out _ (Below.refl _ _)).mono ?_;rintro e w1 ⟨rfl,hb⟩;go_wp2_with fail;go_ret;exact ⟨rfl,hb⟩
theorem w_says {B:Nat} {so:Option Addr} {sc:Nat} {ws:List Tok} {nb t o:Nat} (s:List UInt8) (w:World) (hP:PAt w B so sc ws nb t o):
 Calls Tryz.prog 193 #[.pointer (some ⟨B,0,none⟩),.string ⟨s.toArray⟩] w fun e w'=>e= .returned (.bool (syP ws t s))∧Below w.heap.size w w':=by
 have HC:=hereC hP;clear hP;unfold syP;generalize hrP ws t=T at *;obtain ⟨kd,pa,fi,tx,er⟩:=T;unfold tokV at HC;dsimp only at HC ⊢;have el:∀ l:List UInt8,(⟨l.toArray⟩:ByteArray).toList=l:=fun l=>by rw [Lib.toList_data]
 have key:∀ r,r=(((kd==10)||(kd==2))&&(tx==s))→Calls Tryz.prog 193 #[.pointer (some ⟨B,0,none⟩),.string ⟨s.toArray⟩] w fun e w'=>e= .returned (.bool r)∧Below w.heap.size w w':=by
  intro r hr;by_cases h10:kd=10
  · subst h10;by_cases hx:tx=s
    · subst hx;obtain rfl:r=true:=by rw [hr];simp
      have g:((⟨tx.toArray⟩:ByteArray).toList==(⟨tx.toArray⟩:ByteArray).toList)=true:=by simp
      clear hr;go_in;go_wp2_with fail;refine (HC.out _ (Below.refl _ _)).mono ?_;rintro e w1 ⟨rfl,hb⟩;have HB:=hQz hb;clear hb;go_wp2_with fail
      (go_ret;exact ⟨rfl,HB.out.trans ((q0a w1 _).mono HB.out.size)⟩)
    · obtain rfl:r=false:=by rw [hr];simp [hx]
      have g:(tx==s)=false:=by simp [hx]
      clear hr;go_in;go_wp2_with fail;refine (HC.out _ (Below.refl _ _)).mono ?_;rintro e w1 ⟨rfl,hb⟩;have HB:=hQz hb;clear hb;go_wp2_with fail
      (go_ret;exact ⟨rfl,HB.out.trans ((q0a w1 _).mono HB.out.size)⟩)
  · have b10:((kd:Int)==10)=false:=by rw [bqZ];omega
    by_cases h2:kd=2
    · subst h2;by_cases hx:tx=s
      · subst hx;obtain rfl:r=true:=by rw [hr];simp
        have g:((⟨tx.toArray⟩:ByteArray).toList==(⟨tx.toArray⟩:ByteArray).toList)=true:=by simp
        clear hr;go_in;go_wp2_with fail;refine (HC.out _ (Below.refl _ _)).mono ?_;rintro e w1 ⟨rfl,hb⟩;have HB:=hQz hb;clear hb;go_wp2_with fail
        (go_ret;exact ⟨rfl,HB.out.trans ((q0a w1 _).mono HB.out.size)⟩)
      · obtain rfl:r=false:=by rw [hr];simp [hx]
        have g:(tx==s)=false:=by simp [hx]
        clear hr;go_in;go_wp2_with fail;refine (HC.out _ (Below.refl _ _)).mono ?_;rintro e w1 ⟨rfl,hb⟩;have HB:=hQz hb;clear hb;go_wp2_with fail
        (go_ret;exact ⟨rfl,HB.out.trans ((q0a w1 _).mono HB.out.size)⟩)
    · have b2:((kd:Int)==2)=false:=by rw [bqZ];omega
      obtain rfl:r=false:=by rw [hr,bqZ.2 h10,bqZ.2 h2];rfl
      clear hr;go_in;go_wp2_with fail;refine (HC.out _ (Below.refl _ _)).mono ?_;rintro e w1 ⟨rfl,hb⟩;have HB:=hQz hb;clear hb;go_wp2_with fail
      (go_ret;exact ⟨rfl,HB.out.trans ((q0a w1 _).mono HB.out.size)⟩)
 exact key _ rfl
theorem PAt.stepT {W W':World} {B:Nat} {so:Option Addr} {sc:Nat} {ws:List Tok} {nb t o:Nat} (h:PAt W B so sc ws nb t o) (t' o':Nat) (hb:Bt B W W') (ht:t'≤ws.length) (ho:o'≤64)
 (hx:W'.heap[B]? =some (.cells #[.slice so ws.length sc,.int .i64 (t':Int),.int .i64 (nb:Int),.int .i64 (o':Int)] 66 (0,0))):PAt W' B so sc ws nb t' o':=
 ⟨hx,h.row.bt h.apart hb,h.cap,h.apart,h.few,ht,ho⟩
theorem w_take {B:Nat} {so:Option Addr} {sc:Nat} {ws:List Tok} {nb t o:Nat} (w:World) (hP:PAt w B so sc ws nb t o) (ht:t<ws.length):
 Calls Tryz.prog 199 #[.pointer (some ⟨B,0,none⟩)] w fun e w'=>e= .returned (tokV (hrP ws t))∧Bt B w w'∧PAt w' B so sc ws nb (t+1) o:=by
 have HC:=hereC hP;have hBl:=hP.lt;have hfew:=hP.few;have HP:=hQz hP;clear hP;generalize hrP ws t=T at *;obtain ⟨kd,pa,fi,tx,er⟩:=T;unfold tokV at HC;unfold tokV;dsimp only at HC ⊢;go_in;go_wp2_with fail;refine (HC.out _ (q0a w _)).mono ?_;rintro e w1 ⟨rfl,hb⟩;have q1:=(hb.block w.heap.size (by simp)).trans (heap_alloc_new w _);have hsz:=hb.size;rw [World.size_alloc] at hsz;have hb':Below w.heap.size w w1:=(q0a w _).trans (hb.mono (by simp));have HB:=hQz hb';have hP1:=HP.out.keep hb';obtain ⟨c0,c1,c2,c3,f0,f1,f2,f3⟩:=q06 hP1.box;have hBne:B≠w.heap.size:=by omega
 have hBl1:B<w1.heap.size:=by omega
 obtain ⟨W2,hW2⟩:∃ W2,w1.alloc (.cells #[.int .i64 (kd:Int),.int .i64 (pa:Int),.int .i64 (fi:Int),.string ⟨tx.toArray⟩] 82)=W2:=⟨_,rfl⟩;have hb2:Below w1.heap.size w1 W2:=by rw [← hW2];exact q0a w1 _
 have hP2:=hP1.keep hb2;obtain ⟨e0,e1,e2,e3,g0,g1,g2,g3⟩:=q06 hP2.box;have x2:W2.heap[w1.heap.size]? =some (.cells #[.int .i64 (kd:Int),.int .i64 (pa:Int),.int .i64 (fi:Int),.string ⟨tx.toArray⟩] 82 (0,0)):=by rw [← hW2];exact heap_alloc_new w1 _
 have q2:=(hb2.block w.heap.size (by omega)).trans q1;have s2:W2.heap.size=w1.heap.size+1:=by rw [← hW2];simp
 obtain ⟨W3,hW3⟩:∃ W3,W2.setCell ⟨B,1,none⟩ (.int .i64 ((t:Int)+1))=W3:=⟨_,rfl⟩;have k3:∀ k,k≠B→W3.heap[k]? =W2.heap[k]? :=fun k hk=>by rw [← hW3];exact Below.heap_setCell _ _ _ _ hk
 have b3:W3.heap[B]? =some (.cells #[.slice so ws.length sc,.int .i64 ((t:Int)+1),.int .i64 (nb:Int),.int .i64 (o:Int)] 66 (0,0)):=by rw [← hW3];exact q1u (i:=1) _ hP2.box
 have x3:=(k3 w1.heap.size (by omega)).trans x2;have q3:=(k3 w.heap.size (by omega)).trans q2;obtain ⟨y0,y1,y2,y3,z0,z1,z2,z3⟩:=q06 x3;obtain ⟨p0,p1,p2,p3,r0,r1,r2,r3⟩:=q06 q3;have HH:=hQz (And.intro hb2 (And.intro hP2 (And.intro k3 (And.intro b3 q3))));have HS:=hQz (And.intro s2 hW3);clear hb hb' q1 hsz hP1 hb2 hP2 k3 b3 x3 q3 x2 q2 s2;go_wp2_with fail;generalize hz4:(((W3.setCell ⟨w.heap.size,0,none⟩ (.int .i64 (kd:Int))).setCell ⟨w.heap.size,1,none⟩ (.int .i64 (pa:Int))).setCell ⟨w.heap.size,2,none⟩ (.int .i64 (fi:Int))).setCell ⟨w.heap.size,3,none⟩ (.string ⟨tx.toArray⟩)=W4;obtain ⟨hb2,hP2,k3,b3,q3⟩:=HH.out;obtain ⟨s2,hW3⟩:=HS.out;have P4:=q22 q3 hz4;obtain ⟨m0,m1,m2,m3,_⟩:=q06 P4.new;have t3:Bt B W2 W3:=by rw [← hW3];exact (Bt.refl B W2).set 1 _
 have t2:Bt B w W2:=(Bt.of HB.out).trans (Bt.of hb2);have t4:Bt B w W4:=P4.bt (t2.trans t3) (Nat.le_refl _);refine bodyPost_ret (v:= .agg #[.int .i64 (kd:Int),.int .i64 (pa:Int),.int .i64 (fi:Int),.string ⟨tx.toArray⟩]) (by simp [results,Tryz.results199,go_sem,m0,m1,m2,m3]) rfl ⟨rfl,t4,HP.out.stepT (t+1) o t4 (by omega) HP.out.open_ ?_⟩;rw [P4.rest B hBne,b3];simp
theorem w_faultS {B:Nat} {so:Option Addr} {sc:Nat} {ws:List Tok} {nb t o:Nat} (w:World) (hP:PAt w B so sc ws nb t o):
 Calls Tryz.prog 107 #[.pointer (some ⟨B,0,none⟩)] w fun e w'=>e= .returned (.agg #[.int .i64 (ftE ws t:Int),.int .i64 (ftQ ws nb t:Int)])∧Below w.heap.size w w':=by
 have HC:=hereC hP;have hBl:=hP.lt;have a0:∀ x,(w.alloc x).cell? ⟨B,0,none⟩=some (.slice so ws.length sc):=fun x=>(q06 (hP.alloc x).box).1;have a1:∀ x,(w.alloc x).cell? ⟨B,1,none⟩=some (.int .i64 (t:Int)):=fun x=>(q06 (hP.alloc x).box).2.1;have a2:∀ x,(w.alloc x).cell? ⟨B,2,none⟩=some (.int .i64 (nb:Int)):=fun x=>(q06 (hP.alloc x).box).2.2.1;have hfl:=Tryz.fldT1;clear hP;unfold ftE ftQ;by_cases h:t=ws.length
 · rw [if_pos h,if_pos h];have hb:((t:Int)==(ws.length:Int))=true:=by simp [h]
   clear h;go_in;go_wp2_with fail
   go_region
   all_goals
    go_wp2_with fail;refine ⟨rfl,.agg #[.int .i64 170,.int .i64 (nb:Int)],by simp [results,Tryz.results107,go_sem],rfl,(q0a w _).drew⟩
 · rw [if_neg h,if_neg h];have hb:((t:Int)==(ws.length:Int))=false:=by rw [bqZ];omega
   generalize hrP ws t=T at *;obtain ⟨kd,pa,fi,tx,er⟩:=T;unfold tokV at HC;dsimp only at HC ⊢;clear h;go_in;go_wp2_with fail
   go_region
   all_goals
    go_wp2_with fail;refine (HC.out _ (q0a w _).drew).mono ?_;rintro e w1 ⟨rfl,hb1⟩;have hb2:Below (w.heap.size+1) (w.alloc (.cells #[.int .i64 0,.int .i64 0] 60)).drew w1:=by simpa using hb1
    have q1:=(hb2.block w.heap.size (by omega)).trans (heap_alloc_new w _);have hb3:Below w.heap.size w w1:=(q0a w _).drew.trans (hb2.mono (by omega));obtain ⟨c0,c1,f0,f1⟩:=q2g q1;have HB:=hQz hb3;have HQ:=hQz q1;clear hb1 hb2 hb3 q1;go_wp2_with fail;generalize hz4:(w1.setCell ⟨w.heap.size,0,none⟩ (.int .i64 171)).setCell ⟨w.heap.size,1,none⟩ (.int .i64 (pa:Int))=W4;have P4:=fb_set HQ.out hz4;obtain ⟨m0,m1,_⟩:=q2g P4.new;refine ⟨rfl,.agg #[.int .i64 171,.int .i64 (pa:Int)],by simp [results,Tryz.results107,go_sem,m0,m1],rfl,HB.out.trans (P4.below (Nat.le_refl _))⟩
end Go.Proofs.YtdjleoglphgdgaaGreatDoor
namespace Go.Proofs.YtdjleoglphgdgaaGreatDoor
open Go.RowKit Go.Shelf
set_option maxRecDepth 100000
set_option maxHeartbeats 12800000
abbrev PM (α:Type):=Nat→Nat→Pr α
def Pr.bd {α β:Type} (x:Pr α) (f: α→PM β):Pr β:=match x with
 | .ok a t o=>f a t o
 | .bad e q=> .bad e q
def pOk {α:Type} (a: α):PM α:=fun t o=> .ok a t o
def q07 {α β:Type} (x:PM α) (f: α→PM β):PM β:=fun t o=>(x t o).bd f
def lpP {α β:Type} (body: α→PM (α ⊕ β)):Nat→ α→PM β
 | 0,_=>fun _ _=> .bad 0 0
 | f+1,a=>q07 (body a) fun r=>match r with
  | .inl a'=>lpP body f a'
  | .inr b=>pOk b
def vtN:VT:= .mk 0 .empty .empty [] []
def ndP (op:Int) (at_:Nat) (kids:List NT):NT:= .mk op (at_:Int) .empty vtN [] kids
def txP (op:Int) (at_:Nat) (text:List UInt8) (kids:List NT):NT:= .mk op (at_:Int) ⟨text.toArray⟩ vtN [] kids
def cnP (at_:Nat) (v:VT):NT:= .mk 2 (at_:Int) .empty v [] []
def q0s (x:Tok):NT:=cnP x.at_ (.mk 4 .empty ⟨x.text.toArray⟩ [] [])
def idxP (at_:Nat) (of key:NT):NT:=ndP 7 at_ [of,key]
def q2s (at_:Nat):NT:=ndP 1 at_ []
def fldP (x:Tok):NT:=idxP x.at_ (q2s x.at_) (q0s x)
def varP (x:Tok):NT:=txP 6 x.at_ x.text []
def addK (A k:NT):NT:= .mk A.op A.at_ A.text A.value A.names (A.kids++[k])
def q0q (ws:List NT) (p:NT):NT:=ws.foldr addK p
section
variable (ws:List Tok) (nb:Nat)
def pFt {α:Type}:PM α:=fun t _=> .bad (ftE ws t) (ftQ ws nb t)
def q0K:PM Tok:=fun t o=> .ok (hrP ws t) (t+1) o
def isP (k:Nat) (t:Nat):Bool:=(hrP ws t).kind==k
def q1r (s:List UInt8):PM Tok:=fun t o=>if syP ws t s then q0K ws t o else pFt ws nb t o
def pBe (k:Nat):PM Tok:=fun t o=>if isP ws k t then q0K ws t o else pFt ws nb t o
def pOpen:PM Tok:=fun t o=>if o=64 then .bad 172 (hrP ws t).at_ else .ok (hrP ws t) (t+1) (o+1)
def q1n (s:List UInt8):PM Tok:=fun t o=>if syP ws t s then pOpen ws t o else pFt ws nb t o
def q0Q (s:List UInt8):PM Unit:=q07 (q1r ws nb s) fun _ t o=> .ok () t (o-1)
def opTz:List (List UInt8 × Nat × Nat × Nat):=[([44],13,1,0),([61],36,2,2),([124,61],37,2,2),([43,61],38,2,2),([45,61],39,2,2),([42,61],40,2,2),([47,61],41,2,2),([37,61],42,2,2),([47,47,61],43,2,2),([47,47],27,3,1),([111,114],26,4,0),([97,110,100],25,5,0),([61,61],19,6,2),([33,61],20,6,2),([60],21,6,2),([60,61],22,6,2),([62],23,6,2),([62,61],24,6,2),([43],14,7,0),([45],15,7,0),([42],16,8,0),([47],17,8,0),([37],18,8,0)]
def opZ (t:Nat):List UInt8 × Nat × Nat × Nat:=let x:=hrP ws t;if x.kind=10∨x.kind=2 then (opTz.find? (fun r=>r.1==x.text)).getD ([],0,0,0) else ([],0,0,0)
section
variable (P:PM NT) (O:Nat→PM NT)
def q29:PM NT:=q07 (q1n ws nb [40]) fun _=>q07 P fun n=>q07 (q0Q ws nb [41]) fun _=>pOk n
def listP:PM NT:=q07 (q1n ws nb [91]) fun x=>q07 (fun t o=>if syP ws t [93] then .ok [] t o else q07 P (fun n=>pOk [n]) t o) fun ks=>q07 (q0Q ws nb [93]) fun _=>pOk (ndP 4 x.at_ ks)
def q24:PM NT:=fun t o=>if isP ws 6 t then q07 (q0K ws) (fun x=>pOk (q0s x)) t o else if isP ws 7 t then
 q07 (pOpen ws) (fun x0=>q07 (lpP (fun (a:List NT × Tok)=>q07 P fun n t o=>if isP ws 8 t then .ok (.inl (a.1++[q0s a.2,n],hrP ws t)) (t+1) o else .ok (.inr (a.1++[q0s a.2,n])) t o) (ws.length+1) ([],x0)) fun ks=>
  q07 (pBe ws nb 9) fun x t o=> .ok (ndP 3 x0.at_ (ks++[q0s x])) t (o-1)) t o
 else pFt ws nb t o
def q23 (ks:List NT) (least most:Nat):PM (List NT):=q07 (q1n ws nb [40]) fun _=>q07 P fun n=>q07 (lpP (fun (a:Nat × List NT) t o=>if a.1<most then (if least≤a.1∧syP ws t [59]=false then .ok (.inr a.2) t o else q07 (q1r ws nb [59]) (fun _=>q07 P fun k=>pOk (.inl (a.1+1,a.2++[k]))) t o) else .ok (.inr a.2) t o) (ws.length+1) (1,ks++[n])) fun ks=>q07 (q0Q ws nb [41]) fun _=>pOk ks
def q1S (at_:Nat):PM NT:=q07 P fun c=>q07 (q1r ws nb [116,104,101,110]) fun _=>q07 P fun n=>pOk (ndP 28 at_ [c,n])
def q1O:PM NT:=q07 (q1n ws nb [105,102]) fun x=>q07 (q1S ws nb P x.at_) fun b=>q07 (lpP (fun (a:List NT) t o=>if syP ws t [101,108,105,102] then q07 (q0K ws) (fun y=>q07 (q1S ws nb P y.at_) fun b=>pOk (.inl (a++[b]))) t o else .ok (.inr a) t o) (ws.length+1) [b]) fun bs=>
 q07 (fun t o=>if syP ws t [101,108,115,101] then q07 (q0K ws) (fun _=>P) t o else .ok (q2s (hrP ws t).at_) t o) fun n=>q07 (q0Q ws nb [101,110,100]) fun _=>pOk (q0q bs n)
def q1v (ks:List NT):PM (List NT):=fun t o=>let x:=hrP ws t
 if x.kind=1∨x.kind=2∨x.kind=6∨x.kind=3 then
  (if syP ws (t+1) [58] then q07 (q1r ws nb [58]) (fun _=>q07 (O 3) fun n=>pOk (ks++[q0s x,n])) (t+1) o else .ok (ks++[q0s x,if x.kind=3 then varP x else fldP x]) (t+1) o)
 else q07 (if x.kind=7 then q24 ws nb P else q29 ws nb P) (fun k=>q07 (q1r ws nb [58]) fun _=>q07 (O 3) fun n=>pOk (ks++[k,n])) t o
def q1T:PM NT:=q07 (q1n ws nb [123]) fun x=>q07 (fun t o=>if syP ws t [125] then .ok [] t o else q07 (q1v ws nb P O []) (fun ks=>lpP (fun (a:List NT) t o=>if syP ws t [44] then q07 (q0K ws) (fun _=>q07 (q1v ws nb P O a) fun b=>pOk (.inl b)) t o else .ok (.inr a) t o) (ws.length+1) ks) t o) fun ks=>q07 (q0Q ws nb [125]) fun _=>pOk (ndP 5 x.at_ ks)
def callP:PM NT:=q07 (q0K ws) fun x t o=>if syP ws t [40] then q07 (q23 ws nb P [] 1 9223372036854775807) (fun ks=>pOk (txP 33 x.at_ x.text ks)) t o else .ok (txP 33 x.at_ x.text []) t o
def termP:PM NT:=fun t o=>let x:=hrP ws t
 if x.kind=10 then
  (if x.text=[46] then q07 (q0K ws) (fun _ t o=>if isP ws 6 t||isP ws 7 t then q07 (q24 ws nb P) (fun k=>pOk (idxP x.at_ (q2s x.at_) k)) t o else .ok (q2s x.at_) t o) t o
   else if x.text=[46,46] then .ok (txP 33 x.at_ [114,101,99,117,114,115,101] []) (t+1) o
   else if x.text=[40] then q29 ws nb P t o else if x.text=[91] then listP ws nb P t o else if x.text=[123] then q1T ws nb P O t o else pFt ws nb t o)
 else if x.kind=2 then
  (if x.text=[110,117,108,108] then .ok (cnP x.at_ vtN) (t+1) o else if x.text=[116,114,117,101] then .ok (cnP x.at_ (.mk 2 .empty .empty [] [])) (t+1) o
   else if x.text=[102,97,108,115,101] then .ok (cnP x.at_ (.mk 1 .empty .empty [] [])) (t+1) o else if x.text=[105,102] then q1O ws nb P t o
   else if x.text=[98,114,101,97,107] then q07 (q0K ws) (fun _=>q07 (pBe ws nb 3) fun y=>pOk (txP 35 x.at_ y.text [])) t o else pFt ws nb t o)
 else if x.kind=4 then .ok (fldP x) (t+1) o
 else if x.kind=5 then .ok (cnP x.at_ (.mk 3 ⟨x.text.toArray⟩ .empty [] [])) (t+1) o
 else if x.kind=6∨x.kind=7 then q24 ws nb P t o
 else if x.kind=3 then .ok (varP x) (t+1) o
 else if x.kind=1 then callP ws nb P t o
 else pFt ws nb t o
def q1C (of:NT):PM NT:=q07 (q1n ws nb [91]) fun x t o=>
 if syP ws t [93] then q07 (q0Q ws nb [93]) (fun _=>pOk (ndP 9 x.at_ [of])) t o
 else if syP ws t [58] then q07 (q0K ws) (fun _=>q07 P fun n=>q07 (q0Q ws nb [93]) fun _=>pOk (ndP 8 x.at_ [of,ndP 0 0 [],n])) t o
 else q07 P (fun m t o=>if syP ws t [93] then q07 (q0Q ws nb [93]) (fun _=>pOk (idxP x.at_ of m)) t o
  else q07 (q1r ws nb [58]) (fun _ t o=>if syP ws t [93] then q07 (q0Q ws nb [93]) (fun _=>pOk (ndP 8 x.at_ [of,m,ndP 0 0 []])) t o else q07 P (fun n=>q07 (q0Q ws nb [93]) fun _=>pOk (ndP 8 x.at_ [of,m,n])) t o) t o) t o
def q0F:NT→PM NT:=lpP (fun (a:NT) t o=>
 if isP ws 4 t then .ok (.inl (idxP (hrP ws t).at_ a (q0s (hrP ws t)))) (t+1) o
 else if syP ws t [46] then q07 (q0K ws) (fun x=>q07 (q24 ws nb P) fun k=>pOk (.inl (idxP x.at_ a k))) t o
 else if syP ws t [91] then q07 (q1C ws nb P a) (fun n=>pOk (.inl n)) t o
 else if syP ws t [63] then .ok (.inl (ndP 10 (hrP ws t).at_ [a])) (t+1) o
 else .ok (.inr a) t o) (ws.length+1)
def q1h (t:Nat):Option NT:=let x:=hrP ws t
 if syP ws t [116,114,121] then some (ndP 10 x.at_ []) else if syP ws t [114,101,100,117,99,101] then some (ndP 30 x.at_ []) else if syP ws t [102,111,114,101,97,99,104] then some (ndP 31 x.at_ []) else none
def q0n (A:NT):PM NT:=if A.op=30∨A.op=31 then q07 (q1r ws nb [97,115]) fun _=>q07 (pBe ws nb 3) fun x=>q07 (q23 ws nb P A.kids 2 (if A.op=30 then 2 else 3)) fun ks=>pOk (.mk A.op A.at_ ⟨x.text.toArray⟩ A.value A.names ks) else pOk A
def q0W:List NT→NT→PM (List NT ⊕ NT)
 | [],out=>pOk (.inr out)
 | last::rest,out=>let A:=addK last out
   fun t o=>if A.op=10∧A.kids.length=1∧syP ws t [99,97,116,99,104]=true then .ok (.inl (A::rest)) (t+1) o
    else q07 (q0n ws nb P A) (fun B=>q07 (q0F ws nb P B) fun C=>q0W rest C) t o
def postP:PM NT:=lpP (fun (a:List NT)=>q07 (lpP (fun (b:List NT) t o=>match q1h ws t with
 | some A=> .ok (.inl (A::b)) (t+1) o
 | none=> .ok (.inr b) t o) (ws.length+1) a) fun b=>q07 (termP ws nb P O) fun n=>q07 (q0F ws nb P n) fun m=>q0W ws nb P b m) (ws.length+1) []
def q2m:PM NT:=q07 (lpP (fun (a:List NT) t o=>if syP ws t [45] then .ok (.inl (a++[ndP 11 (hrP ws t).at_ []])) (t+1) o else .ok (.inr a) t o) (ws.length+1) []) fun ss=>q07 (postP ws nb P O) fun n=>pOk (q0q ss n)
def q1R (least:Nat) (left:NT):PM NT:=lpP (fun (a:List NT × NT × Nat) t o=>let r:=opZ ws t
    if r.2.2.1<least∨a.2.2<r.2.2.1 then .ok (.inr (q0q a.1 a.2.1)) t o
    else q07 (O (r.2.2.1+1)) (fun n=>if r.2.2.2=1 then pOk (.inl (a.1++[ndP r.2.1 (hrP ws t).at_ [a.2.1]],n,r.2.2.1)) else pOk (.inl ([],ndP r.2.1 (hrP ws t).at_ [q0q a.1 a.2.1,n],if r.2.2.2=2 then r.2.2.1-1 else r.2.2.1))) (t+1) o) (ws.length+1) ([],left,8)
def q2e (least:Nat):PM NT:=q07 (q2m ws nb P O) fun n=>q1R ws O least n
def q1H:PM ByteArray:=fun t o=>if isP ws 3 t then .ok ⟨(36::(hrP ws t).text).toArray⟩ (t+1) o else q07 (pBe ws nb 1) (fun x=>pOk ⟨x.text.toArray⟩) t o
def q25:PM (List ByteArray):=fun t o=>if syP ws t [40] then q07 (q1n ws nb [40]) (fun _=>q07 (q1H ws nb) fun a=>q07 (lpP (fun (l:List ByteArray) t o=>if syP ws t [59] then q07 (q0K ws) (fun _=>q07 (q1H ws nb) fun b=>pOk (.inl (l++[b]))) t o else .ok (.inr l) t o) (ws.length+1) [a]) fun l=>q07 (q0Q ws nb [41]) fun _=>pOk l) t o else .ok [] t o
def linkP:PM (NT × Bool):=fun t o=>
 if syP ws t [100,101,102] then q07 (q1n ws nb [100,101,102]) (fun x=>q07 (pBe ws nb 1) fun y=>q07 (q25 ws nb) fun l=>q07 (q1r ws nb [58]) fun _=>q07 P fun n=>q07 (q0Q ws nb [59]) fun _=>pOk (.mk 32 (x.at_:Int) ⟨y.text.toArray⟩ vtN l [n],true)) t o
 else if syP ws t [108,97,98,101,108] then q07 (q0K ws) (fun x=>q07 (pBe ws nb 3) fun y=>q07 (q1r ws nb [124]) fun _=>pOk (txP 34 x.at_ y.text [],true)) t o
 else q07 (q2m ws nb P O) (fun n t1 o1=>if syP ws t [45]=false∧syP ws t1 [97,115]=true then q07 (q0K ws) (fun x=>q07 (pBe ws nb 3) fun y=>q07 (q1r ws nb [124]) fun _=>pOk (txP 29 x.at_ y.text [n],true)) t1 o1
  else q07 (q1R ws O 1 n) (fun m t2 o2=>if syP ws t2 [124] then .ok (ndP 12 (hrP ws t2).at_ [m],true) (t2+1) o2 else .ok (m,false) t2 o2) t1 o1) t o
def pipeP:PM NT:=lpP (fun (a:List NT)=>q07 (linkP ws nb P O) fun r=>if r.2 then pOk (.inl (a++[r.1])) else pOk (.inr (q0q a r.1))) (ws.length+1) []
end
def poP:Nat→PM NT × (Nat→PM NT)
 | 0=>(fun _ _=> .bad 0 0,fun _ _ _=> .bad 0 0)
 | n+1=>(pipeP ws nb (poP n).1 (poP n).2,q2e ws nb (poP n).1 (poP n).2)
def wholeP:Pr NT:=q07 (poP ws nb (ws.length+1)).1 (fun n t o=>if t<ws.length then pFt ws nb t o else .ok n t o) 0 0
end
end Go.Proofs.YtdjleoglphgdgaaGreatDoor
namespace Go.Proofs.YtdjleoglphgdgaaGreatDoor
open Go.RowKit Go.Shelf
set_option maxRecDepth 100000
set_option maxHeartbeats 12800000
def MvA {α:Type} (L k:Nat) (x:PM α) (t:Nat):Prop:=∀ o a t' o',x t o= .ok a t' o'→t+k≤t'∧t'≤L
def Mv {α:Type} (L k:Nat) (x:PM α):Prop:=∀ t,t≤L→MvA L k x t
theorem q19 {α:Type} {L:Nat} (a: α):Mv L 0 (pOk a):=fun t ht o b t' o' h=>by
 injection h with h1 h2 h3;omega
theorem q0t {α:Type} {L i j:Nat} {x:PM α} (h:Mv L i x) (hj:j≤i):Mv L j x:=fun t ht o a t' o' e=>by
 have:=h t ht o a t' o' e;omega
theorem q0P {α β:Type} {L i j k t:Nat} {x:PM α} {f: α→PM β} (hx:MvA L i x t) (hf:∀ a,Mv L j (f a)) (hk:k≤i+j):MvA L k (q07 x f) t:=fun o b t' o' e=>by
 unfold q07 at e
 cases hxx:x t o with
 | bad e1 q=>rw [hxx] at e;cases e
 | ok a t1 o1=>
  rw [hxx] at e;have h1:=hx o a t1 o1 hxx;have h2:=hf a t1 h1.2 o1 b t' o' e;omega
theorem q0b {α β:Type} {L i j k:Nat} {x:PM α} {f: α→PM β} (hx:Mv L i x) (hf:∀ a,Mv L j (f a)) (hk:k≤i+j):Mv L k (q07 x f):=fun t ht=>q0P (hx t ht) hf hk
theorem q1z {α β:Type} {L:Nat} {body: α→PM (α ⊕ β)} (hb:∀ a t o r t' o',t≤L→body a t o= .ok r t' o'→t≤t'∧t'≤L):∀ (f:Nat) (a: α),Mv L 0 (lpP body f a)
 | 0,a=>fun t ht o b t' o' e=>by cases e
 | f+1,a=>fun t ht o b t' o' e=>by
  unfold lpP q07 at e
  cases hxx:body a t o with
  | bad e1 q=>rw [hxx] at e;cases e
  | ok r t1 o1=>
   rw [hxx] at e;have h1:=hb a t o r t1 o1 ht hxx
   cases r with
   | inl a'=>
    have h2:=q1z hb f a' t1 h1.2 o1 b t' o' e;omega
   | inr b'=>
    injection e with e1 e2 e3;omega
section
variable {ws:List Tok} {nb:Nat}
theorem hr_none {t:Nat} (h:ws.length≤t):hrP ws t=⟨0,0,0,[],0⟩:=by
 unfold hrP;rw [List.getD_eq_getElem?_getD,List.getElem?_eq_none h];rfl
theorem q0V {t:Nat} {s:List UInt8} (h:syP ws t s=true):t<ws.length:=by
 by_cases hl:t<ws.length
 · exact hl
 · unfold syP at h;rw [hr_none (by omega)] at h;simp at h
theorem is_lt {t k:Nat} (hk:k≠0) (h:isP ws k t=true):t<ws.length:=by
 by_cases hl:t<ws.length
 · exact hl
 · unfold isP at h;rw [hr_none (by omega)] at h;simp at h;omega
theorem q0B (s:List UInt8):Mv ws.length 1 (q1r ws nb s):=fun t ht o a t' o' e=>by
 unfold q1r at e;by_cases h:syP ws t s=true
 · rw [if_pos h] at e;have:=q0V h;injection e with e1 e2 e3;omega
 · rw [if_neg h] at e
   cases e
theorem mv_be {k:Nat} (hk:k≠0):Mv ws.length 1 (pBe ws nb k):=fun t ht o a t' o' e=>by
 unfold pBe at e;by_cases h:isP ws k t=true
 · rw [if_pos h] at e;have:=is_lt hk h;injection e with e1 e2 e3;omega
 · rw [if_neg h] at e
   cases e
theorem mva_open {t:Nat} (hl:t<ws.length):MvA ws.length 1 (pOpen ws) t:=fun o a t' o' e=>by
 unfold pOpen at e;by_cases h:o=64
 · rw [if_pos h] at e;cases e
 · rw [if_neg h] at e;injection e with e1 e2 e3;omega
theorem q0I (s:List UInt8):Mv ws.length 1 (q1n ws nb s):=fun t ht o a t' o' e=>by
 unfold q1n at e;by_cases h:syP ws t s=true
 · rw [if_pos h] at e;exact mva_open (q0V h) o a t' o' e
 · rw [if_neg h] at e
   cases e
theorem q0u (s:List UInt8):Mv ws.length 1 (q0Q ws nb s):=q0b (q0B s) (j:=0) (fun a t ht o b t' o' e=>by
 injection e with e1 e2 e3;omega) (by omega)
theorem q17 {t:Nat} (hl:t<ws.length):MvA ws.length 1 (q0K ws) t:=fun o a t' o' e=>by
 injection e with e1 e2 e3;omega
variable {P:PM NT} {O:Nat→PM NT}
theorem mv_group (hP:Mv ws.length 0 P):Mv ws.length 1 (q29 ws nb P):=
 q0b (q0I _) (j:=0) (fun _=>q0b hP (j:=0) (fun n=>q0b (q0u _) (j:=0) (fun _=>q19 n) (by omega)) (by omega)) (by omega)
theorem mv_list (hP:Mv ws.length 0 P):Mv ws.length 1 (listP ws nb P):=
 q0b (q0I _) (j:=0) (fun x=>q0b (i:=0) (j:=0) (fun t ht o a t' o' e=>by
  by_cases h:syP ws t [93]=true
  · simp only [if_pos h] at e;injection e with e1 e2 e3;omega
  · simp only [if_neg h] at e;exact q0b hP (j:=0) (k:=0) (fun n=>q19 [n]) (by omega) t ht o a t' o' e) (fun ks=>q0b (q0u _) (j:=0) (fun _=>q19 _) (by omega)) (by omega)) (by omega)
end
section
variable {ws:List Tok} {nb:Nat} {P:PM NT} {O:Nat→PM NT}
theorem q0j {α:Type} {L t k n:Nat} {o1 o':Nat} {a b: α} {t':Nat} (e:(.ok a n o1:Pr α)= .ok b t' o') (h1:t+k≤n) (h2:n≤L):t+k≤t'∧t'≤L:=by
 injection e with e1 e2 e3;omega
theorem mv_text (hP:Mv ws.length 0 P):Mv ws.length 1 (q24 ws nb P):=fun t ht o a t' o' e=>by
 unfold q24 at e;by_cases h6:isP ws 6 t=true
 · rw [if_pos h6] at e;exact q0P (q17 (is_lt (by decide) h6)) (j:=0) (fun x=>q19 _) (by omega) o a t' o' e
 · rw [if_neg h6] at e;by_cases h7:isP ws 7 t=true
   · rw [if_pos h7] at e;refine q0P (mva_open (is_lt (by decide) h7)) (j:=0) (fun x0=>q0b (i:=0) (j:=0) (q1z (fun a t o r t' o' ht e=> ?_) _ _) (fun ks=>q0t (i:=1) (q0b (mv_be (by decide)) (j:=0) (fun x t ht o a t' o' e=>q0j e (by omega) ht) (by omega)) (by omega)) (by omega)) (by omega) o a t' o' e;refine q0b hP (j:=0) (k:=0) (fun n t ht o r t' o' e=> ?_) (by omega) t ht o r t' o' e;by_cases h8:isP ws 8 t=true
     · simp only [if_pos h8] at e;exact q0j e (by omega) (is_lt (by decide) h8)
     · simp only [if_neg h8] at e;exact q0j e (by omega) ht
   · rw [if_neg h7] at e
     cases e
theorem mv_pipes (hP:Mv ws.length 0 P) (ks:List NT) (least most:Nat):Mv ws.length 1 (q23 ws nb P ks least most):=
 q0b (q0I _) (j:=0) (fun _=>q0b hP (j:=0) (fun n=>q0b (i:=0) (j:=0) (q1z (fun a t o r t' o' ht e=>by
  by_cases h1:a.1<most
  · simp only [if_pos h1] at e;by_cases h2:least≤a.1∧syP ws t [59]=false
    · simp only [if_pos h2] at e;exact q0j e (k:=0) (by omega) ht
    · simp only [if_neg h2] at e;exact q0t (q0b (q0B _) (j:=0) (k:=1) (fun _=>q0b hP (j:=0) (k:=0) (fun k=>q19 _) (by omega)) (by omega)) (j:=0) (by omega) t ht o r t' o' e
  · simp only [if_neg h1] at e;exact q0j e (k:=0) (by omega) ht) _ _) (fun ks=>q0t (q0b (q0u _) (j:=0) (k:=1) (fun _=>q19 _) (by omega)) (by omega)) (by omega)) (by omega)) (by omega)
theorem mv_branch (hP:Mv ws.length 0 P) (at_:Nat):Mv ws.length 0 (q1S ws nb P at_):=
 q0b hP (j:=0) (fun c=>q0b (q0B _) (j:=0) (fun _=>q0b hP (j:=0) (fun n=>q19 _) (by omega)) (by omega)) (by omega)
theorem mv_choice (hP:Mv ws.length 0 P):Mv ws.length 1 (q1O ws nb P):=
 q0b (q0I _) (j:=0) (fun x=>q0b (mv_branch hP _) (j:=0) (fun b=>q0b (i:=0) (j:=0) (q1z (fun a t o r t' o' ht e=>by
  by_cases h:syP ws t [101,108,105,102]=true
  · simp only [if_pos h] at e;have:=q0P (q17 (q0V h)) (j:=0) (k:=1) (fun y=>q0b (mv_branch hP _) (j:=0) (k:=0) (fun b=>q19 _) (by omega)) (by omega) o r t' o' e;omega
  · simp only [if_neg h] at e;exact q0j e (k:=0) (by omega) ht) _ _) (fun bs=>q0b (i:=0) (j:=0) (fun t ht o a t' o' e=>by
  by_cases h:syP ws t [101,108,115,101]=true
  · simp only [if_pos h] at e;have:=q0P (q17 (q0V h)) (j:=0) (k:=1) (fun _=>hP) (by omega) o a t' o' e;omega
  · simp only [if_neg h] at e;exact q0j e (by omega) ht) (fun n=>q0t (q0b (q0u _) (j:=0) (k:=1) (fun _=>q19 _) (by omega)) (by omega)) (by omega)) (by omega)) (by omega)) (by omega)
theorem q2o {t:Nat} (h:(hrP ws t).kind≠0):t<ws.length:=by
 by_cases hl:t<ws.length
 · exact hl
 · rw [hr_none (by omega)] at h;exact absurd rfl h
theorem mv_entry (hP:Mv ws.length 0 P) (hO:∀ l,1≤l→Mv ws.length 0 (O l)) (ks:List NT):Mv ws.length 1 (q1v ws nb P O ks):=fun t ht o a t' o' e=>by
 unfold q1v at e;simp only at e;by_cases h:(hrP ws t).kind=1∨(hrP ws t).kind=2∨(hrP ws t).kind=6∨(hrP ws t).kind=3
 · rw [if_pos h] at e;have hl:=q2o (ws:=ws) (t:=t) (by omega);by_cases h2:syP ws (t+1) [58]=true
   · rw [if_pos h2] at e;have:=q0b (q0B [58]) (j:=0) (k:=1) (fun _=>q0b (hO 3 (by omega)) (j:=0) (k:=0) (fun n=>q19 _) (by omega)) (by omega) (t+1) (by omega) o a t' o' e;omega
   · rw [if_neg h2] at e;exact q0j e (by omega) (by omega)
 · rw [if_neg h] at e;refine q0P (i:=1) (j:=0) ?_ (fun k=>q0t (q0b (q0B _) (j:=0) (k:=1) (fun _=>q0b (hO 3 (by omega)) (j:=0) (k:=0) (fun n=>q19 _) (by omega)) (by omega)) (by omega)) (by omega) o a t' o' e;by_cases h7:(hrP ws t).kind=7
   · rw [if_pos h7];exact mv_text hP t ht
   · rw [if_neg h7];exact mv_group hP t ht
theorem mv_record (hP:Mv ws.length 0 P) (hO:∀ l,1≤l→Mv ws.length 0 (O l)):Mv ws.length 1 (q1T ws nb P O):=
 q0b (q0I _) (j:=0) (fun x=>q0b (i:=0) (j:=0) (fun t ht o a t' o' e=>by
  by_cases h:syP ws t [125]=true
  · simp only [if_pos h] at e;exact q0j e (by omega) ht
  · simp only [if_neg h] at e
    have:=q0b (mv_entry hP hO []) (j:=0) (k:=1) (fun ks=>q1z (fun a t o r t' o' ht e=>by
     by_cases h:syP ws t [44]=true
     · simp only [if_pos h] at e;have:=q0P (q17 (q0V h)) (j:=0) (k:=1) (fun _=>q0t (q0b (mv_entry hP hO a) (j:=0) (k:=1) (fun b=>q19 _) (by omega)) (by omega)) (by omega) o r t' o' e;omega
     · simp only [if_neg h] at e;exact q0j e (k:=0) (by omega) ht) _ _) (by omega) t ht o a t' o' e
    omega) (fun ks=>q0t (q0b (q0u _) (j:=0) (k:=1) (fun _=>q19 _) (by omega)) (by omega)) (by omega)) (by omega)
theorem mva_call (hP:Mv ws.length 0 P) {t:Nat} (hl:t<ws.length):MvA ws.length 1 (callP ws nb P) t:=
 q0P (q17 hl) (j:=0) (fun x t ht o a t' o' e=>by
  by_cases h:syP ws t [40]=true
  · simp only [if_pos h] at e;have:=q0b (mv_pipes hP [] 1 9223372036854775807) (j:=0) (k:=1) (fun ks=>q19 _) (by omega) t ht o a t' o' e;omega
  · simp only [if_neg h] at e;exact q0j e (by omega) ht) (by omega)
theorem mv_term (hP:Mv ws.length 0 P) (hO:∀ l,1≤l→Mv ws.length 0 (O l)):Mv ws.length 1 (termP ws nb P O):=fun t ht o a t' o' e=>by
 unfold termP at e;simp only at e
 split at e
 · have hl:=q2o (ws:=ws) (t:=t) (by omega)
   split at e
   · refine q0P (q17 hl) (j:=0) (fun x t ht o a t' o' e=> ?_) (by omega) o a t' o' e
     split at e
     · have:=q0b (mv_text hP) (j:=0) (k:=1) (fun k=>q19 _) (by omega) t ht o a t' o' e;omega
     · exact q0j e (by omega) ht
   · split at e
     · exact q0j e (by omega) (by omega)
     · split at e
       · exact mv_group hP t ht o a t' o' e
       · split at e
         · exact mv_list hP t ht o a t' o' e
         · split at e
           · exact mv_record hP hO t ht o a t' o' e
           · cases e
 · split at e
   · have hl:=q2o (ws:=ws) (t:=t) (by omega)
     split at e
     · exact q0j e (by omega) (by omega)
     · split at e
       · exact q0j e (by omega) (by omega)
       · split at e
         · exact q0j e (by omega) (by omega)
         · split at e
           · exact mv_choice hP t ht o a t' o' e
           · split at e
             · exact q0P (q17 hl) (j:=0) (fun _=>q0t (q0b (mv_be (by decide)) (j:=0) (k:=1) (fun y=>q19 _) (by omega)) (by omega)) (by omega) o a t' o' e
             · cases e
   · split at e
     · exact q0j e (by omega) (q2o (ws:=ws) (t:=t) (by omega))
     · split at e
       · exact q0j e (by omega) (q2o (ws:=ws) (t:=t) (by omega))
       · split at e
         · exact mv_text hP t ht o a t' o' e
         · split at e
           · exact q0j e (by omega) (q2o (ws:=ws) (t:=t) (by omega))
           · split at e
             · exact mva_call hP (q2o (ws:=ws) (t:=t) (by omega)) o a t' o' e
             · cases e
end
end Go.Proofs.YtdjleoglphgdgaaGreatDoor
