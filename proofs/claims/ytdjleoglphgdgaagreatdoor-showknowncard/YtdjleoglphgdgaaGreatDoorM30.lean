import Derived.Test.YtdjleoglphgdgaaGreatDoorM25
import Derived.Test.YtdjleoglphgdgaaGreatDoorM27
import Derived.WalkMore
import Derived.Deep.LoopGhost
import Derived.Test.YtdjleoglphgdgaaGreatDoorM26
import Derived.Test.YtdjleoglphgdgaaGreatDoorM24
set_option linter.unusedVariables false
set_option linter.unusedSimpArgs false
namespace Go.Proofs.YtdjleoglphgdgaaGreatDoor
open Go.RowKit Go.Shelf
attribute [local go_sem] Oper.semAt_some
set_option maxRecDepth 100000
set_option maxHeartbeats 12800000
def flT (l:List Tok):List Value:=l.flatMap fun t=>[.int .i64 (t.kind:Int),.int .i64 (t.at_:Int),.int .i64 (t.fin:Int),.string ⟨t.text.toArray⟩]
theorem flT_snoc (l:List Tok) (t:Tok):flT (l++[t])=flT l++[.int .i64 (t.kind:Int),.int .i64 (t.at_:Int),.int .i64 (t.fin:Int),.string ⟨t.text.toArray⟩]:=by simp [flT]
theorem Tryz.infoTok:(Tryz.prog.info? 82).map (fun i=>(i.zero,i.size,i.bytes))=some (some (.agg #[.int .i64 0,.int .i64 0,.int .i64 0,.string ⟨#[]⟩]),4,40):=by kernel_rfl
theorem new4 {w:World} {g:Nat} {t:TypeId} {y0 y1 y2 y3:Value} (h:w.heap[g]? =some (.cells #[y0,y1,y2,y3] t (0,0))):∀ (j:Nat) u,[y0,y1,y2,y3][j]? =some u→w.cell? ((⟨g,0,none⟩:Addr).add j)=some u:=World.news_of_block (cs:= #[y0,y1,y2,y3]) h
theorem own_shapeT {w:World} {base:Nat} {e:TypeId} {size:Nat} {v:Value} {n:Nat} {xs:List Value} (h:w.ownsRow base e size v n xs):∃ so sc,v= .slice so n sc:=by
 rcases h.2 with ⟨e,h0⟩|⟨g,cap,cur,e,_⟩
 · exact ⟨none,0,by rw [e,h0]⟩
 · exact ⟨_,_,e⟩
def TRow (w:World) (so:Option Addr) (l:List Tok):Prop:=∀ i,(h:i<l.length)→∃ g off,so=some ⟨g,off,none⟩∧g<w.heap.size∧w.cell? ⟨g,off+i*4,none⟩=some (.int .i64 (l[i].kind:Int))∧w.cell? ⟨g,off+i*4+1,none⟩=some (.int .i64 (l[i].at_:Int))∧w.cell? ⟨g,off+i*4+2,none⟩=some (.int .i64 (l[i].fin:Int))∧w.cell? ⟨g,off+i*4+3,none⟩=some (.string ⟨l[i].text.toArray⟩)
theorem TRow.keep {w w':World} {so:Option Addr} {l:List Tok} (h:TRow w so l) (hb:Below w.heap.size w w'):TRow w' so l:=fun i hi=>by
 obtain ⟨g,off,e,hg,a0,a1,a2,a3⟩:=h i hi;exact ⟨g,off,e,Nat.lt_of_lt_of_le hg hb.size,(hb.cell (p:=⟨_,_,_⟩) hg).trans a0,(hb.cell (p:=⟨_,_,_⟩) hg).trans a1,(hb.cell (p:=⟨_,_,_⟩) hg).trans a2,(hb.cell (p:=⟨_,_,_⟩) hg).trans a3⟩
end Go.Proofs.YtdjleoglphgdgaaGreatDoor
namespace Go.Proofs.YtdjleoglphgdgaaGreatDoor
open Go.RowKit Go.Shelf
set_option maxRecDepth 100000
set_option maxHeartbeats 12800000
def tokC (t:Tok) (j:Nat):Value:=if j=0 then .int .i64 (t.kind:Int) else if j=1 then .int .i64 (t.at_:Int) else if j=2 then .int .i64 (t.fin:Int) else .string ⟨t.text.toArray⟩
theorem flT_get (l:List Tok):∀ (i j:Nat) (h:i<l.length),j<4→(flT l)[i*4+j]? =some (tokC l[i] j):=by
 induction l with
 | nil=>intro i j h;exact absurd h (Nat.not_lt_zero _)
 | cons t l ih=>
  intro i j h hj;have e:flT (t::l)=[.int .i64 (t.kind:Int),.int .i64 (t.at_:Int),.int .i64 (t.fin:Int),.string ⟨t.text.toArray⟩]++flT l:=rfl;rw [e]
  cases i with
  | zero=>
   rw [List.getElem?_append_left (by simp;omega)];have:j=0∨j=1∨j=2∨j=3:=by omega
   rcases this with rfl|rfl|rfl|rfl <;> rfl
  | succ i=>
   rw [List.getElem?_append_right (by simp;omega)];have e2:(i+1)*4+j- [Value.int .i64 (t.kind:Int),.int .i64 (t.at_:Int),.int .i64 (t.fin:Int),.string ⟨t.text.toArray⟩].length=i*4+j:=by simp;omega
   rw [e2,ih i j (by simpa using h) hj];rfl
theorem trow_block {w:World} {g:Nat} {cur:Array Value} {t:TypeId} {l:List Tok} (h:w.heap[g]? =some (.cells cur t (0,0))) (hc:cur.toList.take (l.length*4)=flT l):TRow w (some ⟨g,0,none⟩) l:=fun i hi=>by
 have hv:∀ j,j<4→w.cell? ⟨g,0+i*4+j,none⟩=some (tokC l[i] j):=fun j hj=>by
  rw [cell_of_row _ _ _ _ _ _ h,← Array.getElem?_toList,Nat.zero_add,← flT_get l i j hi hj,← hc,List.getElem?_take_of_lt (by omega)]
 exact ⟨g,0,rfl,(Array.getElem?_eq_some_iff.1 h).1,hv 0 (by decide),hv 1 (by decide),hv 2 (by decide),hv 3 (by decide)⟩
theorem trow_own {w:World} {base:Nat} {so:Option Addr} {sc:Nat} {l:List Tok} (h:w.ownsRow base 82 4 (.slice so l.length sc) l.length (flT l)):TRow w so l∧l.length≤sc:=by
 rcases h.2 with ⟨e,h0⟩|⟨g,cap,cur,e,h1,h2,h3,h4,h5,h6⟩
 · exact ⟨fun i hi=>by omega,by omega⟩
 · simp only [Value.slice.injEq] at e;obtain ⟨rfl,_,rfl⟩:=e;exact ⟨trow_block h2 h6,h3⟩
end Go.Proofs.YtdjleoglphgdgaaGreatDoor
namespace Go.Proofs.YtdjleoglphgdgaaGreatDoor
open Go.RowKit Go.Shelf
attribute [local go_sem] Oper.semAt_some
set_option maxRecDepth 100000
set_option maxHeartbeats 12800000
theorem below_row {wr w1:World} {base:Nat} {e:TypeId} {size:Nat} {v:Value} {n:Nat} {xs:List Value} (hb:Below wr.heap.size wr w1) (h:wr.ownsRow base e size v n xs):w1.ownsRow base e size v n xs:=by
 refine ⟨h.1,h.2.imp id ?_⟩;rintro ⟨g,cap,cur,rfl,e2,e3,rest⟩;exact ⟨g,cap,cur,rfl,e2,q0y hb (Array.getElem?_eq_some_iff.1 e3).1 e3,rest⟩
theorem belowN {b:Nat} {w w':World} (h:Below b w w') (n:Nat):Below b w (w'.drewN n):=by
 induction n generalizing w' with
 | zero=>exact h
 | succ n ih=>exact (ih h).drew
theorem q15 {w:World} {base:Nat} {e:TypeId} {size:Nat} {v:Value} {n:Nat} {xs:List Value} (h:w.ownsRow base e size v n xs):∀ b,v.ownBlock=some b→b<w.heap.size:=by
 intro b hb;rcases h.2 with ⟨rfl,_⟩|⟨g',cap,cur,rfl,e2,e3,_⟩
 · cases hb
 · simp [Value.ownBlock] at hb;subst hb;exact (Array.getElem?_eq_some_iff.1 e3).1
theorem own_setT {w:World} {base:Nat} {e:TypeId} {size:Nat} {v:Value} {n:Nat} {xs:List Value} (h:w.ownsRow base e size v n xs) {a:Addr} {u:Value} (hne:v.ownBlock≠some a.block):(w.setCell a u).ownsRow base e size v n xs:=by
 refine ⟨h.1,?_⟩;rcases h.2 with h|⟨g',cap,cur,rfl,e2,e3,rest⟩
 · exact .inl h
 · refine .inr ⟨g',cap,cur,rfl,e2,(Below.heap_setCell _ _ _ _ (fun e=>hne ?_)).trans e3,rest⟩;rw [← e];rfl
end Go.Proofs.YtdjleoglphgdgaaGreatDoor
namespace Go.Proofs.YtdjleoglphgdgaaGreatDoor
open Go.RowKit
set_option maxRecDepth 100000
set_option maxHeartbeats 12800000
theorem Tryz.infoInt:(Tryz.prog.info? 3).map (fun i=>(i.zero,i.size,i.bytes))=some (some (.int .i64 0),1,8):=by kernel_rfl
def opV (op:List Nat):List Value:=op.map fun (n:Nat)=> .int .i64 (n:Int)
theorem opV_len (op:List Nat):(opV op).length=op.length:=by simp [opV]
structure CtW (B C:Nat) (s:ByteArray) (v:Value) (op:List Nat) (w:World):Prop where
 box:CtB w C s v
 row:w.ownsRow B 3 1 v op.length (opV op)
structure CtL (C:Nat) (row:Option Nat) (w w':World):Prop where
 size:w.heap.size≤w'.heap.size
 block:∀ b,b<w.heap.size→b≠C→row≠some b→w'.heap[b]? =w.heap[b]?
theorem CtL.refl (C:Nat) (row:Option Nat) (w:World):CtL C row w w:=⟨Nat.le_refl _,fun _ _ _ _=>rfl⟩
theorem CtL.of {C:Nat} {row:Option Nat} {w w':World} (h:Below w.heap.size w w'):CtL C row w w':=⟨h.size,fun b hb _ _=>h.block b hb⟩
theorem CtL.trans {C:Nat} {row:Option Nat} {a b c:World} (h:CtL C row a b) (k:CtL C row b c):CtL C row a c:=
 ⟨Nat.le_trans h.size k.size,fun i h1 h2 h3=>(k.block i (Nat.lt_of_lt_of_le h1 h.size) h2 h3).trans (h.block i h1 h2 h3)⟩
theorem CtW.keep {B C:Nat} {s:ByteArray} {v:Value} {op:List Nat} {w w':World} (h:CtW B C s v op w) (hb:Below w.heap.size w w'):CtW B C s v op w':=⟨h.box.low hb h.box.lt,below_row hb h.row⟩
theorem q1i {w:World} {B:Nat} {e t:TypeId} {size:Nat} {v:Value} {n:Nat} {xs:List Value} {g:Nat} {cs:Array Value} {f:Nat × Nat} (h:w.ownsRow B e size v n xs) (hg:w.heap[g]? =some (.cells cs t f)) (ht:t≠e):v.ownBlock≠some g:=by
 intro hb;rcases h.2 with ⟨rfl,_⟩|⟨g',cap,cur,rfl,e2,e3,_⟩
 · cases hb
 · simp [Value.ownBlock] at hb;subst hb;rw [hg] at e3;simp at e3;exact ht e3.2.1
theorem own_baseW {w:World} {B:Nat} {e:TypeId} {size:Nat} {v:Value} {n:Nat} {xs:List Value} (h:w.ownsRow B e size v n xs):∀ g,v.ownBlock=some g→B≤g:=by
 intro g hg;rcases h.2 with ⟨rfl,_⟩|⟨g',cap,cur,rfl,e2,e3,_⟩
 · cases hg
 · simp [Value.ownBlock] at hg;subst hg;exact e2
theorem op_last {B:Nat} {v:Value} {op:List Nat} {w:World} {k:Nat} (h:w.ownsRow B 3 1 v op.length (opV op)) (hk:op.length=k+1):
 ∃ g cap,v= .slice (some ⟨g,0,none⟩) (k+1) cap∧B≤g∧k+1≤cap∧g<w.heap.size∧w.cell? ⟨g,k,none⟩=some (.int .i64 ((op.getD k 0:Nat):Int))∧w.frozen? ⟨g,k,none⟩=false∧
   ∀ x:Nat,(w.setCell ⟨g,k,none⟩ (.int .i64 (x:Int))).ownsRow B 3 1 v op.length (opV (op.set k x)):=by
 rcases h.2 with ⟨_,h0⟩|⟨g,cap,cur,rfl,e2,e3,e4,e5,e6,e7⟩
 · omega
 · refine ⟨g,cap,by rw [hk],e2,by omega,(Array.getElem?_eq_some_iff.1 e3).1,?_,frozen_of_row w g k _ _ e3,fun x=>⟨by simp [opV],.inr ⟨g,cap,cur.setIfInBounds k (.int .i64 (x:Int)),rfl,e2,heap_setCell_same w g k _ _ _ e3,e4,e5,by simpa using e6,?_⟩⟩⟩
   · rw [cell_of_row _ _ _ _ _ _ e3,← Array.getElem?_toList];have h1:(opV op)[k]? =cur.toList[k]? :=by rw [← e7,List.getElem?_take_of_lt (by omega)]
     rw [← h1];have hk2:k<op.length:=by omega
     simp [opV,List.getD,hk2]
   · rw [Array.toList_setIfInBounds,List.take_set,e7];simp [opV,List.map_set]
theorem op_less {B:Nat} {g cap k:Nat} {op:List Nat} {w:World} (h:w.ownsRow B 3 1 (.slice (some ⟨g,0,none⟩) (k+1) cap) op.length (opV op)) (hk:op.length=k+1):
 w.ownsRow B 3 1 (.slice (some ⟨g,0,none⟩) k cap) op.dropLast.length (opV op.dropLast):=by
 rcases h.2 with ⟨h1,h0⟩|⟨g',cap',cur,e1,e2,e3,e4,e5,e6,e7⟩
 · cases h1
 · simp only [Value.slice.injEq] at e1;obtain ⟨e8,_,rfl⟩:=e1;have e8:g=g':=by simpa using e8
   subst e8;have hl:op.dropLast.length=k:=by rw [List.length_dropLast];omega
   refine ⟨by rw [opV_len];omega,.inr ⟨g,cap,cur,by rw [hl],e2,e3,by omega,e5,e6,?_⟩⟩;rw [hl];have h1:(cur.toList.take (op.length*1)).take k=(opV op).take k:=by rw [e7]
   rw [List.take_take,show min k (op.length*1)=k by omega] at h1;rw [Nat.mul_one,h1];unfold opV;rw [← List.map_take,List.dropLast_eq_take,hk];simp
theorem incL_set:∀ op:List Nat,op≠[]→incL op=op.set (op.length-1) (op.getD (op.length-1) 0+1)
 | [],h=>absurd rfl h
 | [x],_=>rfl
 | x::y::r,_=>by
  have:=incL_set (y::r) (by simp);rw [incL,this];simp
theorem decO_set:∀ op:List Nat,op≠[]→decO op=op.set (op.length-1) (op.getD (op.length-1) 0-1)
 | [],h=>absurd rfl h
 | [x],_=>rfl
 | x::y::r,_=>by
  have:=decO_set (y::r) (by simp);rw [decO,this];simp
theorem last_getD {op:List Nat} {k:Nat} (hk:op.length=k+1):op.getLast? =some (op.getD k 0):=by
 rw [List.getLast?_eq_getElem?,hk];have hk2:k<op.length:=by omega
 simp [List.getD,hk2]
theorem incL_len (op:List Nat):(incL op).length=op.length:=by
 by_cases h:op=[]
 · subst h;rfl
 · rw [incL_set op h];simp
theorem decO_len (op:List Nat):(decO op).length=op.length:=by
 by_cases h:op=[]
 · subst h;rfl
 · rw [decO_set op h];simp
theorem w_countUp (B C:Nat) (s:ByteArray) (v:Value) (op:List Nat) (w:World) (hC:CtW B C s v op w) (hB:B≤C) (hop:∀ x∈op,x≤1099511627776) (hln:op.length≤1099511627776):
 Calls Tryz.prog 155 #[.pointer (some ⟨C,0,none⟩),.int .i64 (1)] w fun e w'=>(∃ r,e= .returned r)∧CtW B C s v (incL op) w'∧CtL C v.ownBlock w w'∧Below B w w':=by
 have c1:=hC.box.c1;by_cases h0:op=[]
 · subst h0;have HF:Hid (CtW B C s v (incL []) w):=hC;rcases hC.row.2 with ⟨rfl,_⟩|⟨g,cap,cur,rfl,_⟩
   · clear hC;go_enter Tryz.func155,Tryz.ntmps155;go_wp2_with fail
     first|go_ret|go_ret2|go_end0
     exact ⟨⟨_,rfl⟩,HF.out,CtL.refl _ _ _,Below.refl _ _⟩
   · clear hC;simp only [List.length_nil] at *;go_enter Tryz.func155,Tryz.ntmps155;go_wp2_with fail
     first|go_ret|go_ret2|go_end0
     exact ⟨⟨_,rfl⟩,HF.out,CtL.refl _ _ _,Below.refl _ _⟩
 · obtain ⟨k,hk⟩:∃ k,op.length=k+1:=⟨op.length-1,by have:=List.length_pos_iff.2 h0;omega⟩;obtain ⟨g,cap,rfl,hg,hcap,hgl,hc,hf,hset⟩:=op_last hC.row hk
   have hx:op.getD k 0∈op:=by
    have hk2:k<op.length:=by omega
    simp [List.getD,hk2]
   have hxl:=hop _ hx;obtain ⟨xx,hxx0⟩:∃ xx,op.getD k 0+1=xx:=⟨_,rfl⟩;have hnew:incL op=op.set k xx:=by rw [incL_set op h0,hk,show k+1-1=k by omega,hxx0]
   have hxx:((xx:Nat):Int)=((op.getD k 0:Nat):Int)+1:=by omega
   have hne:g≠C:=fun e=>q1i hC.row hC.box (by decide) (by rw [← e];rfl);obtain ⟨W,hW⟩:∃ W,w.setCell ⟨g,k,none⟩ (.int .i64 ((xx:Nat):Int))=W:=⟨_,rfl⟩
   have HF:Hid (CtW B C s (.slice (some ⟨g,0,none⟩) (k+1) cap) (incL op) W):=by
    rw [← hW,hnew];refine ⟨(Below.heap_setCell _ _ _ _ (fun e=>hne e.symm)).trans hC.box,?_⟩;have:=hset xx;rw [List.length_set];exact this
   have HL:Hid (CtL C (some g) w W):=by
    rw [← hW];exact ⟨by simp,fun b hb h1 h2=>Below.heap_setCell _ _ _ _ (fun e=>h2 (by rw [e]))⟩
   have HBl:Hid (Below B w W):=by rw [← hW];exact (Below.refl B w).setCell (p:=⟨g,k,none⟩) hg _
   rw [hxx] at hW;have HWW:=hQz hW;have hkk:k≤1099511627776:=by omega
   have hi0:(0:Int)≤(k:Int):=by omega
   have hi1:(k:Int)<(k:Int)+1:=by omega
   clear hW hset hC hx hnew hne hk h0 hop hln hg hxx;generalize op.getD k 0=y at *;go_enter Tryz.func155,Tryz.ntmps155;go_wp2_with fail
   first|go_ret|go_ret2|go_end0
   rw [HWW.out];exact ⟨⟨_,rfl⟩,HF.out,HL.out,HBl.out⟩
theorem w_countDown (B C:Nat) (s:ByteArray) (v:Value) (op:List Nat) (w:World) (hC:CtW B C s v op w) (hB:B≤C) (hop:∀ x∈op,x≤1099511627776) (hln:op.length≤1099511627776) (hcl:clsB op=false):
 Calls Tryz.prog 155 #[.pointer (some ⟨C,0,none⟩),.int .i64 (-1)] w fun e w'=>(∃ r,e= .returned r)∧CtW B C s v (decO op) w'∧CtL C v.ownBlock w w'∧Below B w w':=by
 have c1:=hC.box.c1;by_cases h0:op=[]
 · subst h0;have HF:Hid (CtW B C s v (decO []) w):=hC;rcases hC.row.2 with ⟨rfl,_⟩|⟨g,cap,cur,rfl,_⟩
   · clear hC;go_enter Tryz.func155,Tryz.ntmps155;go_wp2_with fail
     first|go_ret|go_ret2|go_end0
     exact ⟨⟨_,rfl⟩,HF.out,CtL.refl _ _ _,Below.refl _ _⟩
   · clear hC;simp only [List.length_nil] at *;go_enter Tryz.func155,Tryz.ntmps155;go_wp2_with fail
     first|go_ret|go_ret2|go_end0
     exact ⟨⟨_,rfl⟩,HF.out,CtL.refl _ _ _,Below.refl _ _⟩
 · obtain ⟨k,hk⟩:∃ k,op.length=k+1:=⟨op.length-1,by have:=List.length_pos_iff.2 h0;omega⟩;obtain ⟨g,cap,rfl,hg,hcap,hgl,hc,hf,hset⟩:=op_last hC.row hk
   have hx:op.getD k 0∈op:=by
    have hk2:k<op.length:=by omega
    simp [List.getD,hk2]
   have hxl:=hop _ hx;obtain ⟨xx,hxx0⟩:∃ xx,op.getD k 0-1=xx:=⟨_,rfl⟩;have hnew:decO op=op.set k xx:=by rw [decO_set op h0,hk,show k+1-1=k by omega,hxx0]
   have hpos:op.getD k 0≠0:=fun e=>by
    unfold clsB at hcl;rw [last_getD hk,e] at hcl;exact absurd hcl (by decide)
   have hxx:((xx:Nat):Int)=((op.getD k 0:Nat):Int)+ -1:=by omega
   have hne:g≠C:=fun e=>q1i hC.row hC.box (by decide) (by rw [← e];rfl);obtain ⟨W,hW⟩:∃ W,w.setCell ⟨g,k,none⟩ (.int .i64 ((xx:Nat):Int))=W:=⟨_,rfl⟩
   have HF:Hid (CtW B C s (.slice (some ⟨g,0,none⟩) (k+1) cap) (decO op) W):=by
    rw [← hW,hnew];refine ⟨(Below.heap_setCell _ _ _ _ (fun e=>hne e.symm)).trans hC.box,?_⟩;have:=hset xx;rw [List.length_set];exact this
   have HL:Hid (CtL C (some g) w W):=by
    rw [← hW];exact ⟨by simp,fun b hb h1 h2=>Below.heap_setCell _ _ _ _ (fun e=>h2 (by rw [e]))⟩
   have HBl:Hid (Below B w W):=by rw [← hW];exact (Below.refl B w).setCell (p:=⟨g,k,none⟩) hg _
   rw [hxx] at hW;have HWW:=hQz hW;have hkk:k≤1099511627776:=by omega
   have hi0:(0:Int)≤(k:Int):=by omega
   have hi1:(k:Int)<(k:Int)+1:=by omega
   clear hW hset hC hx hnew hne hk h0 hop hln hg hxx;generalize op.getD k 0=y at *;go_enter Tryz.func155,Tryz.ntmps155;go_wp2_with fail
   first|go_ret|go_ret2|go_end0
   rw [HWW.out];exact ⟨⟨_,rfl⟩,HF.out,HL.out,HBl.out⟩
theorem q1q (B C:Nat) (s:ByteArray) (v:Value) (op:List Nat) (w:World) (hC:CtW B C s v op w) (hln:op.length≤1099511627776):
 Calls Tryz.prog 104 #[.pointer (some ⟨C,0,none⟩)] w fun e w'=>e= .returned (.bool (clsB op))∧w'=w:=by
 have c1:=hC.box.c1;by_cases h0:op=[]
 · subst h0;have HF:Hid (clsB []=false):=rfl;rcases hC.row.2 with ⟨rfl,_⟩|⟨g,cap,cur,rfl,_⟩
   · clear hC;go_enter Tryz.func104,Tryz.ntmps104;go_wp2_with fail;go_ret;exact ⟨by rw [HF.out];first|done|rfl,rfl⟩
   · clear hC;simp only [List.length_nil] at *;go_enter Tryz.func104,Tryz.ntmps104;go_wp2_with fail;go_ret;exact ⟨by rw [HF.out];first|done|rfl,rfl⟩
 · obtain ⟨k,hk⟩:∃ k,op.length=k+1:=⟨op.length-1,by have:=List.length_pos_iff.2 h0;omega⟩;obtain ⟨g,cap,rfl,hg,hcap,hgl,hc,hf,hset⟩:=op_last hC.row hk
   have HCL:Hid (clsB op=(((op.getD k 0:Nat):Int)==0)):=by
    show _=_;unfold clsB;rw [last_getD hk];by_cases e:op.getD k 0=0
    · rw [e];rfl
    · rw [decide_eq_false (fun h=>e (by simpa using h)),bqZ.2 (by omega)]
   have hkk:k≤1099511627776:=by omega
   have hi0:(0:Int)≤(k:Int):=by omega
   have hi1:(k:Int)<(k:Int)+1:=by omega
   clear hset hC hk h0 hln hg;generalize op.getD k 0=y at *;go_enter Tryz.func104,Tryz.ntmps104;go_wp2_with fail;go_ret;exact ⟨by rw [HCL.out];first|done|rfl,rfl⟩
theorem nameW_pos {l:List UInt8} {p:Nat} (hp:p<l.length) (h:leB (l.getD p 0)=true):0<(q0z l p).length:=by
 unfold q0z;rw [if_pos ⟨hp,h⟩];have h1:=bhP_gt (P:=inB) hp (by unfold inB;rw [h];rfl);have h2:=q1F inB (l:=l) (p:=p) (by omega);rw [cut_len h2.2];omega
theorem mkW_len (l:List UInt8) (p:Nat):(mkW l p).length≤l.length-p:=by
 unfold mkW
 repeat' split
 all_goals (simp <;> omega)
theorem tok_up {l:List UInt8} {op:List Nat} {p:Nat} (hp:p<l.length) (h:(tokW l op p).err=0):(tokW l op p).at_=p∧p<(tokW l op p).fin∧(tokW l op p).fin≤l.length:=by
 have hn:=q23 (l:=l) (p:=p) (by omega);have hn1:=q23 (l:=l) (p:=p+1) (by omega);unfold tokW at h ⊢
 split
 · next h1=>
   have:=nameW_pos hp h1;exact ⟨rfl,by show p<p+_;omega,hn⟩
 · next h1=>
   rw [if_neg h1] at h
   split
   · next h2=>
     rw [if_pos h2] at h;unfold varT at h ⊢
     split
     · exact ⟨rfl,by show p<p+1+_;omega,hn1⟩
     · next h3=>rw [if_neg h3] at h;cases h
   · next h2=>
     rw [if_neg h2] at h
     split
     · exact ⟨rfl,by show p<p+1+_;omega,hn1⟩
     · next h3=>
       rw [if_neg h3] at h
       split
       · next h4=>
         rw [if_pos h4] at h;unfold numT16 at h ⊢;have h5:=bhP_gt (P:=nuB) hp (by unfold nuB inB;rw [h4];simp);have h6:=q1F nuB (l:=l) (p:=p) (by omega)
         split
         · exact ⟨rfl,h5,h6.2⟩
         · next h7=>rw [if_neg h7] at h;cases h
       · next h4=>
         rw [if_neg h4] at h
         split
         · next h5=>
           rw [if_pos h5] at h;have:=piece_up hp h;exact ⟨this.1,by omega,this.2.2⟩
         · next h5=>
           rw [if_neg h5] at h
           split
           · next h6=>
             rw [if_pos h6] at h;have:=piece_up hp h;exact ⟨this.1,by omega,this.2.2⟩
           · next h6=>
             rw [if_neg h6] at h;unfold markT at h ⊢
             split
             · next h7=>rw [if_pos h7] at h;cases h
             · next h7=>
               have h8:=mkW_len l p;have h9:0<(mkW l p).length:=List.length_pos_iff.2 h7;exact ⟨rfl,by show p<p+_;omega,by show p+_≤_;omega⟩
where
 mkW_head0 {l:List UInt8} {p:Nat} (h:mkW l p=[41]) (hp:p<l.length):(l.getD p 0).toNat=41:=by
  have e:=q1w hp;unfold mkW at h;rw [e] at h
  split at h
  · simp at h;exact congrArg UInt8.toNat (show l.getD p 0=41 from h.1)
  · split at h
    · simp at h;exact congrArg UInt8.toNat (show l.getD p 0=41 from h.1)
    · split at h
      · simp at h;exact congrArg UInt8.toNat (show l.getD p 0=41 from h)
      · cases h
theorem scF_up {l:List UInt8}:∀ (f p:Nat) (op:List Nat),p≤l.length→l.length-p<f→scF l (f+1) p op=scF l f p op:=by
 intro f
 induction f with
 | zero=>intro p op _ h;omega
 | succ f ih=>
  intro p op hp h;by_cases h1:p<l.length
  · by_cases h2:(tokW l op p).err=0
    · have hu:=tok_up h1 h2;have hi:=idW_ge hu.2.2;have e:∀ g,scF l (g+1) p op=tokW l op p::scF l g (idW l (tokW l op p).fin) (q1Z (tokW l op p) op):=fun g=>by rw [scF,if_pos h1,if_pos h2]
      rw [e,e,ih _ _ hi.2 (by omega)]
    · have e:∀ g,scF l (g+1) p op=[tokW l op p]:=fun g=>by rw [scF,if_pos h1,if_neg h2]
      rw [e,e]
  · have e:∀ g,scF l (g+1) p op=(if op=[] then [] else [⟨0,l.length,0,[],21⟩]):=fun g=>by rw [scF,if_neg h1]
    rw [e,e]
theorem scF_more {l:List UInt8} {p:Nat} {op:List Nat} (hp:p≤l.length):∀ (k f:Nat),l.length-p<f→scF l (f+k) p op=scF l f p op:=by
 intro k
 induction k with
 | zero=>intro f _;rfl
 | succ k ih=>intro f h;rw [show f+(k+1)=(f+k)+1 by omega,scF_up _ _ _ hp (by omega)];exact ih f h
theorem scF_any {l:List UInt8} {p f g:Nat} {op:List Nat} (hp:p≤l.length) (hf:l.length-p<f) (hg:l.length-p<g):scF l f p op=scF l g p op:=by
 rcases Nat.le_total f g with h|h
 · rw [show g=f+(g-f) by omega,scF_more hp _ _ hf]
 · rw [show f=g+(f-g) by omega,scF_more hp _ _ hg]
theorem sc_step {l:List UInt8} {p:Nat} {op:List Nat} (hp:p<l.length) (h:(tokW l op p).err=0):scF l (l.length+1) p op=tokW l op p::scF l (l.length+1) (idW l (tokW l op p).fin) (q1Z (tokW l op p) op):=by
 have hu:=tok_up hp h;have hi:=idW_ge hu.2.2;rw [scF,if_pos hp,if_pos h];rw [scF_any (g:=l.length+1) hi.2 (by omega) (by omega)]
theorem sc_bad {l:List UInt8} {f p:Nat} {op:List Nat} (hp:p<l.length) (h:¬ (tokW l op p).err=0):scF l (f+1) p op=[tokW l op p]:=by rw [scF,if_pos hp,if_neg h]
theorem sc_end {l:List UInt8} {f p:Nat} {op:List Nat} (hp:¬ p<l.length):scF l (f+1) p op=if op=[] then [] else [⟨0,l.length,0,[],21⟩]:=by rw [scF,if_neg hp]
theorem mem_incL:∀ (op:List Nat) (b:Nat),(∀ x∈op,x≤b)→∀ x∈incL op,x≤b+1
 | [],_,_=>fun x h=>by cases h
 | [y],b,hb=>fun x h=>by
  have:=hb y (by simp);have e:x=y+1:=by simpa [incL] using h
  omega
 | y::z::r,b,hb=>fun x h=>by
  rw [incL] at h;rcases List.mem_cons.1 h with e|h
  · have:=hb y (by simp);omega
  · exact mem_incL (z::r) b (fun x hx=>hb x (List.mem_cons_of_mem _ hx)) x h
theorem mem_decO:∀ (op:List Nat) (b:Nat),(∀ x∈op,x≤b)→∀ x∈decO op,x≤b
 | [],_,_=>fun x h=>by cases h
 | [y],b,hb=>fun x h=>by
  have:=hb y (by simp);have e:x=y-1:=by simpa [decO] using h
  omega
 | y::z::r,b,hb=>fun x h=>by
  rw [decO] at h;rcases List.mem_cons.1 h with e|h
  · have:=hb y (by simp);omega
  · exact mem_decO (z::r) b (fun x hx=>hb x (List.mem_cons_of_mem _ hx)) x h
theorem open_bd {t:Tok} {op:List Nat} {b:Nat} (h1:∀ x∈op,x≤b) (h2:op.length≤b):(∀ x∈q1Z t op,x≤b+1)∧(q1Z t op).length≤b+1:=by
 unfold q1Z
 split
 · refine ⟨fun x hx=> ?_,by simp;omega⟩;rcases List.mem_append.1 hx with h|h
   · have:=h1 x h;omega
   · have:x=0:=by simpa using h
     omega
 · split
   · exact ⟨fun x hx=>by have:=h1 x (List.dropLast_subset op hx);omega,by rw [List.length_dropLast];omega⟩
   · split
     · exact ⟨mem_incL op b h1,by rw [incL_len];omega⟩
     · split
       · exact ⟨fun x hx=>by have:=mem_decO op b h1 x hx;omega,by rw [decO_len];omega⟩
       · exact ⟨fun x hx=>by have:=h1 x hx;omega,by omega⟩
end Go.Proofs.YtdjleoglphgdgaaGreatDoor
