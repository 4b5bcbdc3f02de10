import Derived.Test.YtdjleoglphgdgaaGreatDoorM23
import Derived.Test.YtdjleoglphgdgaaGreatDoorM25
import Derived.WalkMore
import Derived.Deep.LoopGhost
import Derived.Test.YtdjleoglphgdgaaGreatDoorM22
import Derived.Test.YtdjleoglphgdgaaGreatDoorM24
set_option linter.unusedVariables false
set_option linter.unusedSimpArgs false
namespace Go.Proofs.YtdjleoglphgdgaaGreatDoor
open Go.RowKit Go.Shelf
attribute [local go_sem] Oper.semAt_some
set_option maxRecDepth 100000
set_option maxHeartbeats 12800000
def flT (l:List Tok):List Value:=l.flatMap fun t=>[.int .i64 (t.kind:Int),.int .i64 (t.at_:Int),.int .i64 (t.fin:Int),.string ⟨t.text.toArray⟩]
theorem flT_snoc (l:List Tok) (t:Tok):flT (l++[t])=flT l++[.int .i64 (t.kind:Int),.int .i64 (t.at_:Int),.int .i64 (t.fin:Int),.string ⟨t.text.toArray⟩]:=by simp [flT]
theorem Tryz.infoTok:(Tryz.prog.info? 82).map (fun i=>(i.zero,i.size,i.bytes))=some (some (.agg #[.int .i64 0,.int .i64 0,.int .i64 0,.string ⟨#[]⟩]),4,40):=by kernel_rfl
theorem new4 {w:World} {g:Nat} {t:TypeId} {y0 y1 y2 y3:Value} (h:w.heap[g]? =some (.cells #[y0,y1,y2,y3] t (0,0))):∀ (j:Nat) u,[y0,y1,y2,y3][j]? =some u→w.cell? ((⟨g,0,none⟩:Addr).add j)=some u:=World.news_of_block (cs:= #[y0,y1,y2,y3]) h
theorem own_shapeT {w:World} {base:Nat} {e:TypeId} {size:Nat} {v:Value} {n:Nat} {xs:List Value} (h:w.ownsRow base e size v n xs):∃ so sc,v= .slice so n sc:=by
 rcases h.2 with ⟨e,h0⟩|⟨g,cap,cur,e,_⟩
 · exact ⟨none,0,by rw [e,h0]⟩
 · exact ⟨_,_,e⟩
def TRow (w:World) (so:Option Addr) (l:List Tok):Prop:=∀ i,(h:i<l.length)→∃ g off,so=some ⟨g,off,none⟩∧g<w.heap.size∧w.cell? ⟨g,off+i*4,none⟩=some (.int .i64 (l[i].kind:Int))∧w.cell? ⟨g,off+i*4+1,none⟩=some (.int .i64 (l[i].at_:Int))∧w.cell? ⟨g,off+i*4+2,none⟩=some (.int .i64 (l[i].fin:Int))∧w.cell? ⟨g,off+i*4+3,none⟩=some (.string ⟨l[i].text.toArray⟩)
theorem TRow.keep {w w':World} {so:Option Addr} {l:List Tok} (h:TRow w so l) (hb:Below w.heap.size w w'):TRow w' so l:=fun i hi=>by
 obtain ⟨g,off,e,hg,a0,a1,a2,a3⟩:=h i hi;exact ⟨g,off,e,Nat.lt_of_lt_of_le hg hb.size,(hb.cell (p:=⟨_,_,_⟩) hg).trans a0,(hb.cell (p:=⟨_,_,_⟩) hg).trans a1,(hb.cell (p:=⟨_,_,_⟩) hg).trans a2,(hb.cell (p:=⟨_,_,_⟩) hg).trans a3⟩
end Go.Proofs.YtdjleoglphgdgaaGreatDoor
namespace Go.Proofs.YtdjleoglphgdgaaGreatDoor
open Go.RowKit Go.Shelf
set_option maxRecDepth 100000
set_option maxHeartbeats 12800000
def tokC (t:Tok) (j:Nat):Value:=if j=0 then .int .i64 (t.kind:Int) else if j=1 then .int .i64 (t.at_:Int) else if j=2 then .int .i64 (t.fin:Int) else .string ⟨t.text.toArray⟩
theorem flT_get (l:List Tok):∀ (i j:Nat) (h:i<l.length),j<4→(flT l)[i*4+j]? =some (tokC l[i] j):=by
 induction l with
 | nil=>intro i j h;exact absurd h (Nat.not_lt_zero _)
 | cons t l ih=>
  intro i j h hj;have e:flT (t::l)=[.int .i64 (t.kind:Int),.int .i64 (t.at_:Int),.int .i64 (t.fin:Int),.string ⟨t.text.toArray⟩]++flT l:=rfl;rw [e]
  cases i with
  | zero=>
   rw [List.getElem?_append_left (by simp;omega)];have:j=0∨j=1∨j=2∨j=3:=by omega
   rcases this with rfl|rfl|rfl|rfl <;> rfl
  | succ i=>
   rw [List.getElem?_append_right (by simp;omega)];have e2:(i+1)*4+j- [Value.int .i64 (t.kind:Int),.int .i64 (t.at_:Int),.int .i64 (t.fin:Int),.string ⟨t.text.toArray⟩].length=i*4+j:=by simp;omega
   rw [e2,ih i j (by simpa using h) hj];rfl
theorem trow_block {w:World} {g:Nat} {cur:Array Value} {t:TypeId} {l:List Tok} (h:w.heap[g]? =some (.cells cur t (0,0))) (hc:cur.toList.take (l.length*4)=flT l):TRow w (some ⟨g,0,none⟩) l:=fun i hi=>by
 have hv:∀ j,j<4→w.cell? ⟨g,0+i*4+j,none⟩=some (tokC l[i] j):=fun j hj=>by
  rw [cell_of_row _ _ _ _ _ _ h,← Array.getElem?_toList,Nat.zero_add,← flT_get l i j hi hj,← hc,List.getElem?_take_of_lt (by omega)]
 exact ⟨g,0,rfl,(Array.getElem?_eq_some_iff.1 h).1,hv 0 (by decide),hv 1 (by decide),hv 2 (by decide),hv 3 (by decide)⟩
theorem trow_own {w:World} {base:Nat} {so:Option Addr} {sc:Nat} {l:List Tok} (h:w.ownsRow base 82 4 (.slice so l.length sc) l.length (flT l)):TRow w so l∧l.length≤sc:=by
 rcases h.2 with ⟨e,h0⟩|⟨g,cap,cur,e,h1,h2,h3,h4,h5,h6⟩
 · exact ⟨fun i hi=>by omega,by omega⟩
 · simp only [Value.slice.injEq] at e;obtain ⟨rfl,_,rfl⟩:=e;exact ⟨trow_block h2 h6,h3⟩
end Go.Proofs.YtdjleoglphgdgaaGreatDoor
namespace Go.Proofs.YtdjleoglphgdgaaGreatDoor
open Go.RowKit Go.Shelf
attribute [local go_sem] Oper.semAt_some
set_option maxRecDepth 100000
set_option maxHeartbeats 12800000
theorem below_row {wr w1:World} {base:Nat} {e:TypeId} {size:Nat} {v:Value} {n:Nat} {xs:List Value} (hb:Below wr.heap.size wr w1) (h:wr.ownsRow base e size v n xs):w1.ownsRow base e size v n xs:=by
 refine ⟨h.1,h.2.imp id ?_⟩;rintro ⟨g,cap,cur,rfl,e2,e3,rest⟩;exact ⟨g,cap,cur,rfl,e2,q0y hb (Array.getElem?_eq_some_iff.1 e3).1 e3,rest⟩
theorem belowN {b:Nat} {w w':World} (h:Below b w w') (n:Nat):Below b w (w'.drewN n):=by
 induction n generalizing w' with
 | zero=>exact h
 | succ n ih=>exact (ih h).drew
theorem q14 {w:World} {base:Nat} {e:TypeId} {size:Nat} {v:Value} {n:Nat} {xs:List Value} (h:w.ownsRow base e size v n xs):∀ b,v.ownBlock=some b→b<w.heap.size:=by
 intro b hb;rcases h.2 with ⟨rfl,_⟩|⟨g',cap,cur,rfl,e2,e3,_⟩
 · cases hb
 · simp [Value.ownBlock] at hb;subst hb;exact (Array.getElem?_eq_some_iff.1 e3).1
theorem own_setT {w:World} {base:Nat} {e:TypeId} {size:Nat} {v:Value} {n:Nat} {xs:List Value} (h:w.ownsRow base e size v n xs) {a:Addr} {u:Value} (hne:v.ownBlock≠some a.block):(w.setCell a u).ownsRow base e size v n xs:=by
 refine ⟨h.1,?_⟩;rcases h.2 with h|⟨g',cap,cur,rfl,e2,e3,rest⟩
 · exact .inl h
 · refine .inr ⟨g',cap,cur,rfl,e2,(Below.heap_setCell _ _ _ _ (fun e=>hne ?_)).trans e3,rest⟩;rw [← e];rfl
end Go.Proofs.YtdjleoglphgdgaaGreatDoor
namespace Go.Proofs.YtdjleoglphgdgaaGreatDoor
open Go.RowKit
set_option maxRecDepth 100000
set_option maxHeartbeats 12800000
theorem Tryz.infoInt:(Tryz.prog.info? 3).map (fun i=>(i.zero,i.size,i.bytes))=some (some (.int .i64 0),1,8):=by kernel_rfl
def opV (op:List Nat):List Value:=op.map fun (n:Nat)=> .int .i64 (n:Int)
theorem opV_len (op:List Nat):(opV op).length=op.length:=by simp [opV]
structure CtW (B C:Nat) (s:ByteArray) (v:Value) (op:List Nat) (w:World):Prop where
 box:CtB w C s v
 row:w.ownsRow B 3 1 v op.length (opV op)
structure CtL (C:Nat) (row:Option Nat) (w w':World):Prop where
 size:w.heap.size≤w'.heap.size
 block:∀ b,b<w.heap.size→b≠C→row≠some b→w'.heap[b]? =w.heap[b]?
theorem CtL.refl (C:Nat) (row:Option Nat) (w:World):CtL C row w w:=⟨Nat.le_refl _,fun _ _ _ _=>rfl⟩
theorem CtL.of {C:Nat} {row:Option Nat} {w w':World} (h:Below w.heap.size w w'):CtL C row w w':=⟨h.size,fun b hb _ _=>h.block b hb⟩
theorem CtL.trans {C:Nat} {row:Option Nat} {a b c:World} (h:CtL C row a b) (k:CtL C row b c):CtL C row a c:=
 ⟨Nat.le_trans h.size k.size,fun i h1 h2 h3=>(k.block i (Nat.lt_of_lt_of_le h1 h.size) h2 h3).trans (h.block i h1 h2 h3)⟩
theorem CtW.keep {B C:Nat} {s:ByteArray} {v:Value} {op:List Nat} {w w':World} (h:CtW B C s v op w) (hb:Below w.heap.size w w'):CtW B C s v op w':=⟨h.box.low hb h.box.lt,below_row hb h.row⟩
theorem q1f {w:World} {B:Nat} {e t:TypeId} {size:Nat} {v:Value} {n:Nat} {xs:List Value} {g:Nat} {cs:Array Value} {f:Nat × Nat} (h:w.ownsRow B e size v n xs) (hg:w.heap[g]? =some (.cells cs t f)) (ht:t≠e):v.ownBlock≠some g:=by
 intro hb;rcases h.2 with ⟨rfl,_⟩|⟨g',cap,cur,rfl,e2,e3,_⟩
 · cases hb
 · simp [Value.ownBlock] at hb;subst hb;rw [hg] at e3;simp at e3;exact ht e3.2.1
theorem own_baseW {w:World} {B:Nat} {e:TypeId} {size:Nat} {v:Value} {n:Nat} {xs:List Value} (h:w.ownsRow B e size v n xs):∀ g,v.ownBlock=some g→B≤g:=by
 intro g hg;rcases h.2 with ⟨rfl,_⟩|⟨g',cap,cur,rfl,e2,e3,_⟩
 · cases hg
 · simp [Value.ownBlock] at hg;subst hg;exact e2
theorem op_last {B:Nat} {v:Value} {op:List Nat} {w:World} {k:Nat} (h:w.ownsRow B 3 1 v op.length (opV op)) (hk:op.length=k+1):
 ∃ g cap,v= .slice (some ⟨g,0,none⟩) (k+1) cap∧B≤g∧k+1≤cap∧g<w.heap.size∧w.cell? ⟨g,k,none⟩=some (.int .i64 ((op.getD k 0:Nat):Int))∧w.frozen? ⟨g,k,none⟩=false∧
   ∀ x:Nat,(w.setCell ⟨g,k,none⟩ (.int .i64 (x:Int))).ownsRow B 3 1 v op.length (opV (op.set k x)):=by
 rcases h.2 with ⟨_,h0⟩|⟨g,cap,cur,rfl,e2,e3,e4,e5,e6,e7⟩
 · omega
 · refine ⟨g,cap,by rw [hk],e2,by omega,(Array.getElem?_eq_some_iff.1 e3).1,?_,frozen_of_row w g k _ _ e3,fun x=>⟨by simp [opV],.inr ⟨g,cap,cur.setIfInBounds k (.int .i64 (x:Int)),rfl,e2,heap_setCell_same w g k _ _ _ e3,e4,e5,by simpa using e6,?_⟩⟩⟩
   · rw [cell_of_row _ _ _ _ _ _ e3,← Array.getElem?_toList];have h1:(opV op)[k]? =cur.toList[k]? :=by rw [← e7,List.getElem?_take_of_lt (by omega)]
     rw [← h1];have hk2:k<op.length:=by omega
     simp [opV,List.getD,hk2]
   · rw [Array.toList_setIfInBounds,List.take_set,e7];simp [opV,List.map_set]
theorem op_less {B:Nat} {g cap k:Nat} {op:List Nat} {w:World} (h:w.ownsRow B 3 1 (.slice (some ⟨g,0,none⟩) (k+1) cap) op.length (opV op)) (hk:op.length=k+1):
 w.ownsRow B 3 1 (.slice (some ⟨g,0,none⟩) k cap) op.dropLast.length (opV op.dropLast):=by
 rcases h.2 with ⟨h1,h0⟩|⟨g',cap',cur,e1,e2,e3,e4,e5,e6,e7⟩
 · cases h1
 · simp only [Value.slice.injEq] at e1;obtain ⟨e8,_,rfl⟩:=e1;have e8:g=g':=by simpa using e8
   subst e8;have hl:op.dropLast.length=k:=by rw [List.length_dropLast];omega
   refine ⟨by rw [opV_len];omega,.inr ⟨g,cap,cur,by rw [hl],e2,e3,by omega,e5,e6,?_⟩⟩;rw [hl];have h1:(cur.toList.take (op.length*1)).take k=(opV op).take k:=by rw [e7]
   rw [List.take_take,show min k (op.length*1)=k by omega] at h1;rw [Nat.mul_one,h1];unfold opV;rw [← List.map_take,List.dropLast_eq_take,hk];simp
theorem incL_set:∀ op:List Nat,op≠[]→incL op=op.set (op.length-1) (op.getD (op.length-1) 0+1)
 | [],h=>absurd rfl h
 | [x],_=>rfl
 | x::y::r,_=>by
  have:=incL_set (y::r) (by simp);rw [incL,this];simp
theorem decO_set:∀ op:List Nat,op≠[]→decO op=op.set (op.length-1) (op.getD (op.length-1) 0-1)
 | [],h=>absurd rfl h
 | [x],_=>rfl
 | x::y::r,_=>by
  have:=decO_set (y::r) (by simp);rw [decO,this];simp
theorem last_getD {op:List Nat} {k:Nat} (hk:op.length=k+1):op.getLast? =some (op.getD k 0):=by
 rw [List.getLast?_eq_getElem?,hk];have hk2:k<op.length:=by omega
 simp [List.getD,hk2]
theorem incL_len (op:List Nat):(incL op).length=op.length:=by
 by_cases h:op=[]
 · subst h;rfl
 · rw [incL_set op h];simp
theorem decO_len (op:List Nat):(decO op).length=op.length:=by
 by_cases h:op=[]
 · subst h;rfl
 · rw [decO_set op h];simp
theorem w_countUp (B C:Nat) (s:ByteArray) (v:Value) (op:List Nat) (w:World) (hC:CtW B C s v op w) (hB:B≤C) (hop:∀ x∈op,x≤1099511627776) (hln:op.length≤1099511627776):
 Calls Tryz.prog 155 #[.pointer (some ⟨C,0,none⟩),.int .i64 (1)] w fun e w'=>(∃ r,e= .returned r)∧CtW B C s v (incL op) w'∧CtL C v.ownBlock w w'∧Below B w w':=by
 have c1:=hC.box.c1;by_cases h0:op=[]
 · subst h0;have HF:Hid (CtW B C s v (incL []) w):=hC;rcases hC.row.2 with ⟨rfl,_⟩|⟨g,cap,cur,rfl,_⟩
   · clear hC;go_in;go_wp2_with fail
     first|go_ret|go_ret2|go_end0
     exact ⟨⟨_,rfl⟩,HF.out,CtL.refl _ _ _,Below.refl _ _⟩
   · clear hC;simp only [List.length_nil] at *;go_in;go_wp2_with fail
     first|go_ret|go_ret2|go_end0
     exact ⟨⟨_,rfl⟩,HF.out,CtL.refl _ _ _,Below.refl _ _⟩
 · obtain ⟨k,hk⟩:∃ k,op.length=k+1:=⟨op.length-1,by have:=List.length_pos_iff.2 h0;omega⟩;obtain ⟨g,cap,rfl,hg,hcap,hgl,hc,hf,hset⟩:=op_last hC.row hk
   have hx:op.getD k 0∈op:=by
    have hk2:k<op.length:=by omega
    simp [List.getD,hk2]
   have hxl:=hop _ hx;obtain ⟨xx,hxx0⟩:∃ xx,op.getD k 0+1=xx:=⟨_,rfl⟩;have hnew:incL op=op.set k xx:=by rw [incL_set op h0,hk,show k+1-1=k by omega,hxx0]
   have hxx:((xx:Nat):Int)=((op.getD k 0:Nat):Int)+1:=by omega
   have hne:g≠C:=fun e=>q1f hC.row hC.box (by decide) (by rw [← e];rfl);obtain ⟨W,hW⟩:∃ W,w.setCell ⟨g,k,none⟩ (.int .i64 ((xx:Nat):Int))=W:=⟨_,rfl⟩
   have HF:Hid (CtW B C s (.slice (some ⟨g,0,none⟩) (k+1) cap) (incL op) W):=by
    rw [← hW,hnew];refine ⟨(Below.heap_setCell _ _ _ _ (fun e=>hne e.symm)).trans hC.box,?_⟩;have:=hset xx;rw [List.length_set];exact this
   have HL:Hid (CtL C (some g) w W):=by
    rw [← hW];exact ⟨by simp,fun b hb h1 h2=>Below.heap_setCell _ _ _ _ (fun e=>h2 (by rw [e]))⟩
   have HBl:Hid (Below B w W):=by rw [← hW];exact (Below.refl B w).setCell (p:=⟨g,k,none⟩) hg _
   rw [hxx] at hW;have HWW:=hQz hW;have hkk:k≤1099511627776:=by omega
   have hi0:(0:Int)≤(k:Int):=by omega
   have hi1:(k:Int)<(k:Int)+1:=by omega
   clear hW hset hC hx hnew hne hk h0 hop hln hg hxx;generalize op.getD k 0=y at *;go_in;go_wp2_with fail
   first|go_ret|go_ret2|go_end0
   rw [HWW.out];exact ⟨⟨_,rfl⟩,HF.out,HL.out,HBl.out⟩
theorem w_countDown (B C:Nat) (s:ByteArray) (v:Value) (op:List Nat) (w:World) (hC:CtW B C s v op w) (hB:B≤C) (hop:∀ x∈op,x≤1099511627776) (hln:op.length≤1099511627776) (hcl:clsB op=false):
 Calls Tryz.prog 155 #[.pointer (some ⟨C,0,none⟩),.int .i64 (-1)] w fun e w'=>(∃ r,e= .returned r)∧CtW B C s v (decO op) w'∧CtL C v.ownBlock w w'∧Below B w w':=by
 have c1:=hC.box.c1;by_cases h0:op=[]
 · subst h0;have HF:Hid (CtW B C s v (decO []) w):=hC;rcases hC.row.2 with ⟨rfl,_⟩|⟨g,cap,cur,rfl,_⟩
   · clear hC;go_in;go_wp2_with fail
     first|go_ret|go_ret2|go_end0
     exact ⟨⟨_,rfl⟩,HF.out,CtL.refl _ _ _,Below.refl _ _⟩
   · clear hC;simp only [List.length_nil] at *;go_in;go_wp2_with fail
     first|go_ret|go_ret2|go_end0
     exact ⟨⟨_,rfl⟩,HF.out,CtL.refl _ _ _,Below.refl _ _⟩
 · obtain ⟨k,hk⟩:∃ k,op.length=k+1:=⟨op.length-1,by have:=List.length_pos_iff.2 h0;omega⟩;obtain ⟨g,cap,rfl,hg,hcap,hgl,hc,hf,hset⟩:=op_last hC.row hk
   have hx:op.getD k 0∈op:=by
    have hk2:k<op.length:=by omega
    simp [List.getD,hk2]
   have hxl:=hop _ hx;obtain ⟨xx,hxx0⟩:∃ xx,op.getD k 0-1=xx:=⟨_,rfl⟩;have hnew:decO op=op.set k xx:=by rw [decO_set op h0,hk,show k+1-1=k by omega,hxx0]
   have hpos:op.getD k 0≠0:=fun e=>by
    unfold clsB at hcl;rw [last_getD hk,e] at hcl;exact absurd hcl (by decide)
   have hxx:((xx:Nat):Int)=((op.getD k 0:Nat):Int)+ -1:=by omega
   have hne:g≠C:=fun e=>q1f hC.row hC.box (by decide) (by rw [← e];rfl);obtain ⟨W,hW⟩:∃ W,w.setCell ⟨g,k,none⟩ (.int .i64 ((xx:Nat):Int))=W:=⟨_,rfl⟩
   have HF:Hid (CtW B C s (.slice (some ⟨g,0,none⟩) (k+1) cap) (decO op) W):=by
    rw [← hW,hnew];refine ⟨(Below.heap_setCell _ _ _ _ (fun e=>hne e.symm)).trans hC.box,?_⟩;have:=hset xx;rw [List.length_set];exact this
   have HL:Hid (CtL C (some g) w W):=by
    rw [← hW];exact ⟨by simp,fun b hb h1 h2=>Below.heap_setCell _ _ _ _ (fun e=>h2 (by rw [e]))⟩
   have HBl:Hid (Below B w W):=by rw [← hW];exact (Below.refl B w).setCell (p:=⟨g,k,none⟩) hg _
   rw [hxx] at hW;have HWW:=hQz hW;have hkk:k≤1099511627776:=by omega
   have hi0:(0:Int)≤(k:Int):=by omega
   have hi1:(k:Int)<(k:Int)+1:=by omega
   clear hW hset hC hx hnew hne hk h0 hop hln hg hxx;generalize op.getD k 0=y at *;go_in;go_wp2_with fail
   first|go_ret|go_ret2|go_end0
   rw [HWW.out];exact ⟨⟨_,rfl⟩,HF.out,HL.out,HBl.out⟩
theorem q1q (B C:Nat) (s:ByteArray) (v:Value) (op:List Nat) (w:World) (hC:CtW B C s v op w) (hln:op.length≤1099511627776):
 Calls Tryz.prog 104 #[.pointer (some ⟨C,0,none⟩)] w fun e w'=>e= .returned (.bool (clsB op))∧w'=w:=by
 have c1:=hC.box.c1;by_cases h0:op=[]
 · subst h0;have HF:Hid (clsB []=false):=rfl;rcases hC.row.2 with ⟨rfl,_⟩|⟨g,cap,cur,rfl,_⟩
   · clear hC;go_in;go_wp2_with fail;go_ret;exact ⟨by rw [HF.out];first|done|rfl,rfl⟩
   · clear hC;simp only [List.length_nil] at *;go_in;go_wp2_with fail;go_ret;exact ⟨by rw [HF.out];first|done|rfl,rfl⟩
 · obtain ⟨k,hk⟩:∃ k,op.length=k+1:=⟨op.length-1,by have:=List.length_pos_iff.2 h0;omega⟩;obtain ⟨g,cap,rfl,hg,hcap,hgl,hc,hf,hset⟩:=op_last hC.row hk
   have HCL:Hid (clsB op=(((op.getD k 0:Nat):Int)==0)):=by
    show _=_;unfold clsB;rw [last_getD hk];by_cases e:op.getD k 0=0
    · rw [e];rfl
    · rw [decide_eq_false (fun h=>e (by simpa using h)),bqZ.2 (by omega)]
   have hkk:k≤1099511627776:=by omega
   have hi0:(0:Int)≤(k:Int):=by omega
   have hi1:(k:Int)<(k:Int)+1:=by omega
   clear hset hC hk h0 hln hg;generalize op.getD k 0=y at *;go_in;go_wp2_with fail;go_ret;exact ⟨by rw [HCL.out];first|done|rfl,rfl⟩
theorem nameW_pos {l:List UInt8} {p:Nat} (hp:p<l.length) (h:leB (l.getD p 0)=true):0<(q0A l p).length:=by
 unfold q0A;rw [if_pos ⟨hp,h⟩];have h1:=bhP_gt (P:=inB) hp (by unfold inB;rw [h];rfl);have h2:=q1G inB (l:=l) (p:=p) (by omega);rw [cut_len h2.2];omega
theorem mkW_len (l:List UInt8) (p:Nat):(mkW l p).length≤l.length-p:=by
 unfold mkW
 repeat' split
 all_goals (simp <;> omega)
theorem tok_up {l:List UInt8} {op:List Nat} {p:Nat} (hp:p<l.length) (h:(tokW l op p).err=0):(tokW l op p).at_=p∧p<(tokW l op p).fin∧(tokW l op p).fin≤l.length:=by
 have hn:=q26 (l:=l) (p:=p) (by omega);have hn1:=q26 (l:=l) (p:=p+1) (by omega);unfold tokW at h ⊢
 split
 · next h1=>
   have:=nameW_pos hp h1;exact ⟨rfl,by show p<p+_;omega,hn⟩
 · next h1=>
   rw [if_neg h1] at h
   split
   · next h2=>
     rw [if_pos h2] at h;unfold varT at h ⊢
     split
     · exact ⟨rfl,by show p<p+1+_;omega,hn1⟩
     · next h3=>rw [if_neg h3] at h;cases h
   · next h2=>
     rw [if_neg h2] at h
     split
     · exact ⟨rfl,by show p<p+1+_;omega,hn1⟩
     · next h3=>
       rw [if_neg h3] at h
       split
       · next h4=>
         rw [if_pos h4] at h;unfold numT16 at h ⊢;have h5:=bhP_gt (P:=nuB) hp (by unfold nuB inB;rw [h4];simp);have h6:=q1G nuB (l:=l) (p:=p) (by omega)
         split
         · exact ⟨rfl,h5,h6.2⟩
         · next h7=>rw [if_neg h7] at h;cases h
       · next h4=>
         rw [if_neg h4] at h
         split
         · next h5=>
           rw [if_pos h5] at h;have:=piece_up hp h;exact ⟨this.1,by omega,this.2.2⟩
         · next h5=>
           rw [if_neg h5] at h
           split
           · next h6=>
             rw [if_pos h6] at h;have:=piece_up hp h;exact ⟨this.1,by omega,this.2.2⟩
           · next h6=>
             rw [if_neg h6] at h;unfold markT at h ⊢
             split
             · next h7=>rw [if_pos h7] at h;cases h
             · next h7=>
               have h8:=mkW_len l p;have h9:0<(mkW l p).length:=List.length_pos_iff.2 h7;exact ⟨rfl,by show p<p+_;omega,by show p+_≤_;omega⟩
where
 mkW_head0 {l:List UInt8} {p:Nat} (h:mkW l p=[41]) (hp:p<l.length):(l.getD p 0).toNat=41:=by
  have e:=q1A hp;unfold mkW at h;rw [e] at h
  split at h
  · simp at h;exact congrArg UInt8.toNat (show l.getD p 0=41 from h.1)
  · split at h
    · simp at h;exact congrArg UInt8.toNat (show l.getD p 0=41 from h.1)
    · split at h
      · simp at h;exact congrArg UInt8.toNat (show l.getD p 0=41 from h)
      · cases h
theorem scF_up {l:List UInt8}:∀ (f p:Nat) (op:List Nat),p≤l.length→l.length-p<f→scF l (f+1) p op=scF l f p op:=by
 intro f
 induction f with
 | zero=>intro p op _ h;omega
 | succ f ih=>
  intro p op hp h;by_cases h1:p<l.length
  · by_cases h2:(tokW l op p).err=0
    · have hu:=tok_up h1 h2;have hi:=idW_ge hu.2.2;have e:∀ g,scF l (g+1) p op=tokW l op p::scF l g (idW l (tokW l op p).fin) (q2a (tokW l op p) op):=fun g=>by rw [scF,if_pos h1,if_pos h2]
      rw [e,e,ih _ _ hi.2 (by omega)]
    · have e:∀ g,scF l (g+1) p op=[tokW l op p]:=fun g=>by rw [scF,if_pos h1,if_neg h2]
      rw [e,e]
  · have e:∀ g,scF l (g+1) p op=(if op=[] then [] else [⟨0,l.length,0,[],21⟩]):=fun g=>by rw [scF,if_neg h1]
    rw [e,e]
theorem scF_more {l:List UInt8} {p:Nat} {op:List Nat} (hp:p≤l.length):∀ (k f:Nat),l.length-p<f→scF l (f+k) p op=scF l f p op:=by
 intro k
 induction k with
 | zero=>intro f _;rfl
 | succ k ih=>intro f h;rw [show f+(k+1)=(f+k)+1 by omega,scF_up _ _ _ hp (by omega)];exact ih f h
theorem scF_any {l:List UInt8} {p f g:Nat} {op:List Nat} (hp:p≤l.length) (hf:l.length-p<f) (hg:l.length-p<g):scF l f p op=scF l g p op:=by
 rcases Nat.le_total f g with h|h
 · rw [show g=f+(g-f) by omega,scF_more hp _ _ hf]
 · rw [show f=g+(f-g) by omega,scF_more hp _ _ hg]
theorem sc_step {l:List UInt8} {p:Nat} {op:List Nat} (hp:p<l.length) (h:(tokW l op p).err=0):scF l (l.length+1) p op=tokW l op p::scF l (l.length+1) (idW l (tokW l op p).fin) (q2a (tokW l op p) op):=by
 have hu:=tok_up hp h;have hi:=idW_ge hu.2.2;rw [scF,if_pos hp,if_pos h];rw [scF_any (g:=l.length+1) hi.2 (by omega) (by omega)]
theorem sc_bad {l:List UInt8} {f p:Nat} {op:List Nat} (hp:p<l.length) (h:¬ (tokW l op p).err=0):scF l (f+1) p op=[tokW l op p]:=by rw [scF,if_pos hp,if_neg h]
theorem sc_end {l:List UInt8} {f p:Nat} {op:List Nat} (hp:¬ p<l.length):scF l (f+1) p op=if op=[] then [] else [⟨0,l.length,0,[],21⟩]:=by rw [scF,if_neg hp]
theorem mem_incL:∀ (op:List Nat) (b:Nat),(∀ x∈op,x≤b)→∀ x∈incL op,x≤b+1
 | [],_,_=>fun x h=>by cases h
 | [y],b,hb=>fun x h=>by
  have:=hb y (by simp);have e:x=y+1:=by simpa [incL] using h
  omega
 | y::z::r,b,hb=>fun x h=>by
  rw [incL] at h;rcases List.mem_cons.1 h with e|h
  · have:=hb y (by simp);omega
  · exact mem_incL (z::r) b (fun x hx=>hb x (List.mem_cons_of_mem _ hx)) x h
theorem mem_decO:∀ (op:List Nat) (b:Nat),(∀ x∈op,x≤b)→∀ x∈decO op,x≤b
 | [],_,_=>fun x h=>by cases h
 | [y],b,hb=>fun x h=>by
  have:=hb y (by simp);have e:x=y-1:=by simpa [decO] using h
  omega
 | y::z::r,b,hb=>fun x h=>by
  rw [decO] at h;rcases List.mem_cons.1 h with e|h
  · have:=hb y (by simp);omega
  · exact mem_decO (z::r) b (fun x hx=>hb x (List.mem_cons_of_mem _ hx)) x h
theorem open_bd {t:Tok} {op:List Nat} {b:Nat} (h1:∀ x∈op,x≤b) (h2:op.length≤b):(∀ x∈q2a t op,x≤b+1)∧(q2a t op).length≤b+1:=by
 unfold q2a
 split
 · refine ⟨fun x hx=> ?_,by simp;omega⟩;rcases List.mem_append.1 hx with h|h
   · have:=h1 x h;omega
   · have:x=0:=by simpa using h
     omega
 · split
   · exact ⟨fun x hx=>by have:=h1 x (List.dropLast_subset op hx);omega,by rw [List.length_dropLast];omega⟩
   · split
     · exact ⟨mem_incL op b h1,by rw [incL_len];omega⟩
     · split
       · exact ⟨fun x hx=>by have:=mem_decO op b h1 x hx;omega,by rw [decO_len];omega⟩
       · exact ⟨fun x hx=>by have:=h1 x hx;omega,by omega⟩
end Go.Proofs.YtdjleoglphgdgaaGreatDoor
namespace Go.Proofs.YtdjleoglphgdgaaGreatDoor
open Go.RowKit Go.Shelf
set_option maxRecDepth 100000
set_option maxHeartbeats 12800000
theorem own_laid {W:World} {B C:Nat} {s:ByteArray} {v:Value} {op:List Nat} (h:CtW B C s v op W):v.ownBlock≠some C:=q1f h.row h.box (by decide)
theorem w_enterIn (B C:Nat) (s:ByteArray) (v:Value) (op:List Nat) (W:World) (hC:CtW B C s v op W) (hB:B≤C) (hln:op.length≤1099511627776):
 Calls Tryz.prog 153 #[.pointer (some ⟨C,0,none⟩),.int .i64 7] W fun e w'=>(∃ r,e= .returned r)∧(∃ v',CtW B C s v' (op++[0]) w')∧CtL C v.ownBlock W w'∧Below B W w':=by
 obtain ⟨i0,hi0,hz0,hz1,hz2⟩:=info_parts Tryz.infoInt;have hrow:=hC.row;have HBK:=hQz hC.box;have hob:=own_laid hC;have c1:=hC.box.c1;have hgl:=hC.box.lt;obtain ⟨so,sc,rfl⟩:=own_shapeT hrow;have HOL:=hQz (opV_len op);generalize hm:op.length=m at *;have HM:=hQz hm;clear hm hC;go_in;go_wp2_with (at_builtin;go_loud (refine wpList_append_own _ rfl _ _ 77 rfl B 3 i0 (.int .i64 0) 1 8 Tryz.underlying77 hi0 hz0 hz1 hz2 rfl (by decide) _ _ _ rfl (hrow.alloc _) ⟨W.heap.size,0,none⟩ 1 1 [.int .i64 0] rfl rfl (World.news_of_block (cs:= #[.int .i64 0]) (t:=3) (fr:=(0,0)) (heap_alloc_new W _)) (by intro u hu;simp at hu;subst hu;rfl) (by unfold maxLen;omega) (by omega) (by simp;omega) ?_));intro v' w5 hown' hgrow _;obtain ⟨g',cap',rfl⟩:=ownsRow_succ hown';have hgs:=hgrow.size;simp at hgs;have hbk5:CtB w5 C s (.slice so m sc):=(hgrow.block C (by simp;omega) (fun e=>hob e.symm)).trans ((Below.heap_alloc _ _ _ (by omega)).trans HBK.out);have e5:=hbk5.c1;have f5:=hbk5.f1;obtain ⟨w6,hw6⟩:∃ w6,w5.setCell ⟨C,1,none⟩ (.slice (some ⟨g',0,none⟩) (m+1) cap')=w6:=⟨_,rfl⟩;have HBK6:Hid (CtB w6 C s (.slice (some ⟨g',0,none⟩) (m+1) cap')):=by rw [← hw6];exact heap_setCell_same w5 C 1 _ _ _ hbk5
 have HOW6:Hid (w6.ownsRow B 3 1 (.slice (some ⟨g',0,none⟩) (m+1) cap') (op++[0]).length (opV (op++[0]))):=by
  rw [← hw6];have h1:=own_setT (a:=⟨C,1,none⟩) (u:= .slice (some ⟨g',0,none⟩) (m+1) cap') hown' (q1f hown' hbk5 (by decide));rw [List.length_append,HM.out];unfold opV at h1 ⊢;rw [List.map_append];exact h1
 have HLD6:Hid (CtL C (Value.slice so m sc).ownBlock W w6):=by
  rw [← hw6];refine ⟨by rw [World.size_setCell];omega,fun b hb h1 h2=> ?_⟩;exact (Below.heap_setCell _ _ _ _ h1).trans ((hgrow.block b (by simp;omega) (fun e=>h2 e.symm)).trans (Below.heap_alloc _ _ _ (by omega)))
 have HBW6:Hid (Below B W w6):=by
  rw [← hw6];exact ((((Below.refl B W).alloc (by omega) _).grown hgrow (by simp;omega) (fun r e=>own_baseW hrow r e))).setCell (p:=⟨C,1,none⟩) hB _
 clear hown' hgrow hob hbk5 HBK;have HW6:=hQz hw6;clear hw6;go_wp2_with fail;(try rw [HW6.out])
 first|go_ret|go_ret2|go_end0
 exact ⟨⟨_,rfl⟩,⟨_,HBK6.out,HOW6.out⟩,HLD6.out,HBW6.out⟩
theorem w_enterOut (B C:Nat) (s:ByteArray) (v:Value) (op:List Nat) (w:World) (hC:CtW B C s v op w) (hB:B≤C) (hln:op.length≤1099511627776) (hne:op≠[]):
 Calls Tryz.prog 153 #[.pointer (some ⟨C,0,none⟩),.int .i64 9] w fun e w'=>(∃ r,e= .returned r)∧(∃ v',CtW B C s v' op.dropLast w')∧CtL C v.ownBlock w w'∧Below B w w':=by
 obtain ⟨k,hk⟩:∃ k,op.length=k+1:=⟨op.length-1,by have:=List.length_pos_iff.2 hne;omega⟩;have c1:=hC.box.c1;have f1:=hC.box.f1;have hob:=own_laid hC;obtain ⟨g,cap,rfl,hg,hcap,hgl,_⟩:=op_last hC.row hk;obtain ⟨W,hW⟩:∃ W,w.setCell ⟨C,1,none⟩ (.slice (some ⟨g,0,none⟩) k cap)=W:=⟨_,rfl⟩
 have HF:Hid (CtW B C s (.slice (some ⟨g,0,none⟩) k cap) op.dropLast W):=by
  rw [← hW];exact ⟨heap_setCell_same w C 1 _ _ _ hC.box,own_setT (op_less hC.row hk) (fun e=>hob e)⟩
 have HL:Hid (∀ row,CtL C row w W):=by
  intro row;rw [← hW];exact ⟨by simp,fun b hb h1 h2=>Below.heap_setCell _ _ _ _ h1⟩
 have HBl:Hid (Below B w W):=by rw [← hW];exact (Below.refl B w).setCell (p:=⟨C,1,none⟩) hB _
 have hkk:k≤1099511627776:=by omega
 have hi0:(0:Int)≤(k:Int):=by omega
 have hi1:(k:Int)≤(cap:Int):=by omega
 have hi2:k≤cap:=by omega
 have HWW:=hQz hW;clear hW hC hk hne hln hg hob;have hmx:Tryz.prog.follows .mixedOrders=true:=by kernel_rfl
 have cd1:w.drew.cell? ⟨C,1,none⟩=some (.slice (some ⟨g,0,none⟩) (k+1) cap):=c1;have fd1:w.drew.frozen? ⟨C,1,none⟩=false:=f1;have HBd:Hid (CtW B C s (.slice (some ⟨g,0,none⟩) k cap) op.dropLast W.drew∧(∀ row,CtL C row w W.drew)∧Below B w W.drew):=⟨⟨HF.out.box,HF.out.row⟩,fun row=>⟨(HL.out row).size,(HL.out row).block⟩,HBl.out.drew⟩;have HWD:Hid (w.drew.setCell ⟨C,1,none⟩ (.slice (some ⟨g,0,none⟩) k cap)=W.drew):=by show _=_;rw [← HWW.out];rfl
 go_in;go_wp2_with fail
 go_region
 all_goals
  go_wp2_with fail;(try rw [HWD.out])
  (try rw [HWW.out])
  first|go_ret|go_ret2|go_end0
  exact ⟨⟨_,rfl⟩,⟨_,HBd.out.1⟩,HBd.out.2.1 _,HBd.out.2.2⟩
theorem w_enterNo (C k:Nat) (w:World) (h7:k≠7) (h9:k≠9):
 Calls Tryz.prog 153 #[.pointer (some ⟨C,0,none⟩),.int .i64 (k:Int)] w fun e w'=>(∃ r,e= .returned r)∧w'=w:=by
 have e7:((k:Int)==7)=false:=by rw [bqZ];omega
 have e9:((k:Int)==9)=false:=by rw [bqZ];omega
 go_in;go_wp2_with fail
 first|go_ret|go_ret2|go_end0
 exact ⟨⟨_,rfl⟩,rfl⟩
end Go.Proofs.YtdjleoglphgdgaaGreatDoor
namespace Go.Proofs.YtdjleoglphgdgaaGreatDoor
open Go.RowKit
set_option maxRecDepth 100000
set_option maxHeartbeats 12800000
def CtP (B C:Nat) (s:ByteArray) (v:Value) (op:List Nat) (t:Tok) (w w':World) (e:Ending):Prop:=
 e= .returned (.tuple #[tokV t,.int .i64 (t.err:Int)])∧(∃ v',CtW B C s v' (q2a t op) w')∧CtL C v.ownBlock w w'∧Below B w w'
theorem CtW.other {B C R:Nat} {s:ByteArray} {v:Value} {op:List Nat} {w wz:World} {cs:Array Value} (h:CtW B C s v op w) (hX:w.heap[R]? =some (.cells cs 82 (0,0))) (z2:∀ b,b≠R→wz.heap[b]? =w.heap[b]?):CtW B C s v op wz:=by
 have hCR:C≠R:=fun e=>by
  have h1:=h.box;unfold CtB at h1;rw [e,hX] at h1;simp at h1
 have hv:v.ownBlock≠some R:=q1f h.row hX (by decide);refine ⟨(z2 C hCR).trans h.box,h.row.1,?_⟩;rcases h.row.2 with h1|⟨g',cap,cur,rfl,e2,e3,rest⟩
 · exact .inl h1
 · exact .inr ⟨g',cap,cur,rfl,e2,(z2 g' (fun e=>hv (by rw [← e];rfl))).trans e3,rest⟩
theorem q0z {B C:Nat} {s:ByteArray} {v v':Value} {op op':List Nat} {w w0 w1 wz:World} {cs:Array Value} (hC:CtW B C s v op w) (hB:B≤C) (h0:Below w.heap.size w w0) (hL:CtL C v.ownBlock w0 w1) (hBl:Below B w0 w1) (h1:CtW B C s v' op' w1)
 (hX:w1.heap[w.heap.size]? =some (.cells cs 82 (0,0))) (z2:∀ b,b≠w.heap.size→wz.heap[b]? =w1.heap[b]?) (z3:wz.heap.size=w1.heap.size) (z4:∀ n,n≤w.heap.size→Below n w1 wz):
 (∃ v',CtW B C s v' op' wz)∧CtL C v.ownBlock w wz∧Below B w wz:=by
 have hlt:=hC.box.lt;refine ⟨⟨v',h1.other hX z2⟩,⟨by have:=h0.size;have:=hL.size;omega,fun b hb h2 h3=> ?_⟩,(h0.mono (by omega)).trans (hBl.trans (z4 B (by omega)))⟩;rw [z2 b (by omega),hL.block b (by have:=h0.size;omega) h2 h3,h0.block b hb]
theorem q1y {B C:Nat} {s:ByteArray} {v:Value} {op:List Nat} {t:Tok} {w w':World} {e:Ending} (hC:CtW B C s v op w) (hB:B≤C) (ho:q2a t op=op) (h:TokR t w w' e):CtP B C s v op t w w' e:=
 ⟨h.1,⟨v,by rw [ho];exact hC.keep h.2⟩,CtL.of h.2,h.2.mono (by have:=hC.box.lt;omega)⟩
theorem w_cMark (B C:Nat) (s:ByteArray) (p:Nat) (v:Value) (op:List Nat) (w:World) (hp:p<s.size) (hs:s.size≤1099511627776) (hC:CtW B C s v op w) (hB:B≤C) (hop:∀ x∈op,x≤1099511627776) (hln:op.length≤1099511627776) (hcl:mkW s.data.toList p=[41]→clsB op=false):
 Calls Tryz.prog 105 #[.pointer (some ⟨C,0,none⟩),.int .i64 (p:Int)] w fun e w'=>CtP B C s v op (markT s.data.toList p) w w' e:=by
 have HM:=hQz (fun u=>w_markAt s p u hp (by omega))
 have hml:(mkW s.data.toList p).length≤s.size-p:=by
  have:=mkK_len s.data.toList p 3;rw [q0d] at this;exact this
 have HC:=hQz hC;unfold markT;generalize mkW s.data.toList p=mk at *;by_cases e0:mk=[]
 · subst e0;rw [if_pos rfl];clear hcl;have HC0:=hQz (hC.box.low (q0a w q0c) hC.box.lt);have c0:=HC0.out.c0;unfold q0c at c0;go_in;go_wp2_with fail;refine (HM.out _).mono ?_;rintro e w1 ⟨rfl,hw1⟩;obtain rfl:=hw1.symm;clear c0;go_wp2_with fail;refine (w_wfault _ _ _).mono ?_;rintro e w1 ⟨rfl,hb1⟩;have hbx:=tbox1 hb1;have HB1:=hQz hbx.2;obtain ⟨kc0,kc1,kc2,kc3,kf0,kf1,kf2,kf3⟩:=q06 hbx.1;have HX:=hQz hbx.1;clear hb1 hbx;go_wp2_with fail;(try simp only [Exit.inBlock,Exit.then])
   generalize hz:((((w1).setCell ⟨w.heap.size,0,none⟩ (.int .i64 0)).setCell ⟨w.heap.size,1,none⟩ (.int .i64 (p:Int))).setCell ⟨w.heap.size,2,none⟩ (.int .i64 0)).setCell ⟨w.heap.size,3,none⟩ (.string ⟨#[]⟩)=wz;obtain ⟨z1,z2,z3,z4⟩:=q0k _ _ _ _ _ _ _ _ _ _ _ HX.out wz hz.symm;obtain ⟨hd0,hd1,hd2,hd3,_⟩:=q06 z1;refine bodyPost_ret (v:= .tuple #[.agg #[.int .i64 0,.int .i64 (p:Int),.int .i64 0,.string ⟨#[]⟩],.int .i64 160]) (by simp [results,Tryz.results105,go_sem,hd0,hd1,hd2,hd3]) rfl ?_;exact q1y HC.out hB rfl ⟨rfl,HB1.out.trans (z4 _ (Nat.le_refl _))⟩
 rw [if_neg e0];by_cases e1:mk=[40]
 · subst e1;clear hcl e0;have HC0:=hQz (hC.box.low (q0a w q0c) hC.box.lt);have c0:=HC0.out.c0;unfold q0c at c0;go_in;go_wp2_with fail;refine (HM.out _).mono ?_;rintro e w1 ⟨rfl,hw1⟩;obtain rfl:=hw1.symm;clear c0;go_wp2_with fail;have hb0:=q0a w q0c;have hCw:=HC.out.keep hb0;refine (w_countUp B C s v op _ hCw hB hop hln).mono ?_;rintro e w1 ⟨⟨r1,rfl⟩,hcw,hcl,hbl⟩;have hX1:w1.heap[w.heap.size]? =some q0c:=(hcl.block w.heap.size (by simp) (Nat.ne_of_gt HC.out.box.lt) (fun e=>absurd (q14 HC.out.row _ e) (Nat.lt_irrefl _))).trans (heap_alloc_new w q0c);have HX:=hQz hX1;have HCW:=hQz hcw;have HCL:=hQz hcl;have HBL:=hQz hbl;have HB0:=hQz hb0;obtain ⟨kc0,kc1,kc2,kc3,kf0,kf1,kf2,kf3⟩:=q06 hX1;clear hcw hcl hbl hX1 hb0 hCw;go_wp2_with fail;(try simp only [Exit.inBlock,Exit.then])
   generalize hz:((((w1).setCell ⟨w.heap.size,0,none⟩ (.int .i64 10)).setCell ⟨w.heap.size,1,none⟩ (.int .i64 (p:Int))).setCell ⟨w.heap.size,2,none⟩ (.int .i64 ((p:Int)+1))).setCell ⟨w.heap.size,3,none⟩ (.string ⟨#[40]⟩)=wz;obtain ⟨z1,z2,z3,z4⟩:=q0k _ _ _ _ _ _ _ _ _ _ _ HX.out wz hz.symm;obtain ⟨hd0,hd1,hd2,hd3,_⟩:=q06 z1;refine bodyPost_ret (v:= .tuple #[.agg #[.int .i64 10,.int .i64 (p:Int),.int .i64 ((p:Int)+1),.string ⟨#[40]⟩],.int .i64 0]) (by simp [results,Tryz.results105,go_sem,hd0,hd1,hd2,hd3]) rfl ?_;exact ⟨rfl,q0z HC.out hB HB0.out HCL.out HBL.out HCW.out HX.out z2 z3 z4⟩
 by_cases e2:mk=[41]
 · subst e2;have HCS:=hQz (hcl rfl);clear e0 e1 hcl;have HC0:=hQz (hC.box.low (q0a w q0c) hC.box.lt);have c0:=HC0.out.c0;unfold q0c at c0;go_in;go_wp2_with fail;refine (HM.out _).mono ?_;rintro e w1 ⟨rfl,hw1⟩;obtain rfl:=hw1.symm;clear c0;go_wp2_with fail;have hb0:=q0a w q0c;have hCw:=HC.out.keep hb0;refine (w_countDown B C s v op _ hCw hB hop hln HCS.out).mono ?_;rintro e w1 ⟨⟨r1,rfl⟩,hcw,hcl,hbl⟩;have hX1:w1.heap[w.heap.size]? =some q0c:=(hcl.block w.heap.size (by simp) (Nat.ne_of_gt HC.out.box.lt) (fun e=>absurd (q14 HC.out.row _ e) (Nat.lt_irrefl _))).trans (heap_alloc_new w q0c);have HX:=hQz hX1;have HCW:=hQz hcw;have HCL:=hQz hcl;have HBL:=hQz hbl;have HB0:=hQz hb0;obtain ⟨kc0,kc1,kc2,kc3,kf0,kf1,kf2,kf3⟩:=q06 hX1;clear hcw hcl hbl hX1 hb0 hCw;go_wp2_with fail;(try simp only [Exit.inBlock,Exit.then])
   generalize hz:((((w1).setCell ⟨w.heap.size,0,none⟩ (.int .i64 10)).setCell ⟨w.heap.size,1,none⟩ (.int .i64 (p:Int))).setCell ⟨w.heap.size,2,none⟩ (.int .i64 ((p:Int)+1))).setCell ⟨w.heap.size,3,none⟩ (.string ⟨#[41]⟩)=wz;obtain ⟨z1,z2,z3,z4⟩:=q0k _ _ _ _ _ _ _ _ _ _ _ HX.out wz hz.symm;obtain ⟨hd0,hd1,hd2,hd3,_⟩:=q06 z1;refine bodyPost_ret (v:= .tuple #[.agg #[.int .i64 10,.int .i64 (p:Int),.int .i64 ((p:Int)+1),.string ⟨#[41]⟩],.int .i64 0]) (by simp [results,Tryz.results105,go_sem,hd0,hd1,hd2,hd3]) rfl ?_;exact ⟨rfl,q0z HC.out hB HB0.out HCL.out HBL.out HCW.out HX.out z2 z3 z4⟩
 have hsz:(⟨mk.toArray⟩:ByteArray).size=mk.length:=q1F _
 have HOP:Hid (q2a ⟨10,p,p+mk.length,mk,0⟩ op=op):=by
  show _=_;unfold q2a;rw [if_neg (by show ¬ 10=7;decide),if_neg (by show ¬ 10=9;decide),if_neg (fun h=>e1 h.2),if_neg (fun h=>e2 h.2)]
 unfold CtP tokV;dsimp only;have g0:¬ (⟨mk.toArray⟩:ByteArray).toList=[]:=by rw [Lib.toList_data];exact e0
 have g0':(⟨mk.toArray⟩:ByteArray).toList.isEmpty=false:=by rw [List.isEmpty_eq_false_iff];exact g0
 have g1:((⟨mk.toArray⟩:ByteArray).toList==[40])=false:=by rw [Lib.toList_data,bqZ];exact e1
 have g2:((⟨mk.toArray⟩:ByteArray).toList==[41])=false:=by rw [Lib.toList_data,bqZ];exact e2
 generalize (⟨mk.toArray⟩:ByteArray)=tb at *;have HR:Hid (((mk.length:Nat):Int)=(tb.size:Int)):=by show _=_;rw [hsz]
 have HR2:Hid (((p+mk.length:Nat):Int)=(p:Int)+(tb.size:Int)):=by show _=_;rw [hsz];omega
 have hln2:p+tb.size≤s.size:=by omega
 clear hsz e0 e1 e2 hcl hml;have HC0:=hQz (hC.box.low (q0a w q0c) hC.box.lt);have c0:=HC0.out.c0;unfold q0c at c0;go_in;go_wp2_with fail;refine (HM.out _).mono ?_;rintro e w1 ⟨rfl,hw1⟩;obtain rfl:=hw1.symm;clear c0;obtain ⟨W,hW⟩:∃ W,w.alloc q0c=W:=⟨_,rfl⟩;have hX:=heap_alloc_new w q0c;rw [hW] at hX;have HX:=hQz hX;have hb:=q0a w q0c;rw [hW] at hb;have HB:=hQz hb;obtain ⟨kc0,kc1,kc2,kc3,kf0,kf1,kf2,kf3⟩:=q06 hX;unfold q0c at hW;rw [hW];clear hW hX hb;go_wp2_with fail;(try simp only [Exit.inBlock,Exit.then])
 generalize hz:((((W).setCell ⟨w.heap.size,0,none⟩ (.int .i64 10)).setCell ⟨w.heap.size,1,none⟩ (.int .i64 (p:Int))).setCell ⟨w.heap.size,2,none⟩ (.int .i64 ((p:Int)+(tb.size:Int)))).setCell ⟨w.heap.size,3,none⟩ (.string tb)=wz;obtain ⟨z1,z2,z3,z4⟩:=q0k _ _ _ _ _ _ _ _ _ _ _ HX.out wz hz.symm;obtain ⟨hd0,hd1,hd2,hd3,_⟩:=q06 z1;refine bodyPost_ret (v:= .tuple #[.agg #[.int .i64 10,.int .i64 (p:Int),.int .i64 ((p:Int)+(tb.size:Int)),.string tb],.int .i64 0]) (by simp [results,Tryz.results105,go_sem,hd0,hd1,hd2,hd3]) rfl ?_;refine ⟨by first|(rw [HR.out];first|done|rfl)|(rw [HR2.out];first|done|rfl),?_⟩;rw [HOP.out];exact q0z HC.out hB HB.out (CtL.refl _ _ _) (Below.refl _ _) (HC.out.keep HB.out) HX.out z2 z3 z4
theorem open_name (l:List UInt8) (p:Nat) (op:List Nat):q2a (nameT l p) op=op:=by
 unfold q2a nameT
 cases ownB (q0A l p) <;> rfl
theorem open_var (l:List UInt8) (p:Nat) (op:List Nat):q2a (varT l p) op=op:=by
 unfold varT
 split <;> rfl
theorem open_field (l:List UInt8) (p:Nat) (op:List Nat):q2a (fieldT l p) op=op:=rfl
theorem open_num (l:List UInt8) (p:Nat) (op:List Nat):q2a (numT16 l p) op=op:=by
 unfold numT16
 split <;> rfl
theorem mkW_head {l:List UInt8} {p:Nat} (h:mkW l p=[41]) (hp:p<l.length):(l.getD p 0).toNat=41:=by
 have e:=q1A hp;unfold mkW at h;rw [e] at h
 split at h
 · simp at h;exact congrArg UInt8.toNat (show l.getD p 0=41 from h.1)
 · split at h
   · simp at h;exact congrArg UInt8.toNat (show l.getD p 0=41 from h.1)
   · split at h
     · simp at h;exact congrArg UInt8.toNat (show l.getD p 0=41 from h)
     · cases h
theorem cls_ne {op:List Nat} (h:clsB op=true):op≠[]:=fun e=>by rw [e] at h;exact absurd h (by decide)
theorem w_tokA (B C:Nat) (s:ByteArray) (p:Nat) (v:Value) (op:List Nat) (w:World) (hp:p<s.size) (hs:s.size≤1073741824) (hC:CtW B C s v op w) (hB:B≤C) (hop:∀ x∈op,x≤1099511627776) (hln:op.length≤1099511627776) (hE:ErrIn w) (hle:leB s[p]=true):
 Calls Tryz.prog 43 #[.pointer (some ⟨C,0,none⟩),.int .i64 (p:Int)] w fun e w'=>CtP B C s v op (tokW s.data.toList op p) w w' e:=by
 have HLe:=hQz (fun u=>q0X s[p] u);have HDg:=hQz (fun u=>q1d s[p] u);have HNa:=hQz (fun u=>q11 s (p+1) u (by omega) (by omega));rw [show ((p+1:Nat):Int)=(p:Int)+1 by omega] at HNa;have hgd:=q0v hp;have hb0:=q0a w q0c;have hC0:=hC.keep hb0;have hE0:=hE.keep hb0;have c0:=hC0.box.c0;have hX00:=heap_alloc_new w q0c;have HCl:Hid (∀ w0,CtW B C s v op w0→Calls Tryz.prog 104 #[.pointer (some ⟨C,0,none⟩)] w0 fun e w'=>e= .returned (.bool (clsB op))∧w'=w0):=fun w0 h=>q1q B C s v op w0 h hln;have HC:=hQz hC;have HC0:=hQz hC0;have HB0:=hQz hb0;have HE0:=hQz hE0;have HX0:=hQz hX00;unfold q0c at c0;have hi0:(0:Int)≤(p:Int):=by omega
 have hi1:(p:Int)<(s.size:Int):=by omega
 obtain ⟨xi,hxi⟩:∃ xi:Int,((s[p].toNat:Nat):Int)=xi:=⟨_,rfl⟩;rw [hxi] at HLe HDg;have hlt:p<s.data.toList.length:=by rw [q0d];exact hp
 unfold tokW;rw [hgd];clear hC hC0 hE hE0 hb0 hX00;rw [if_pos hle];rw [hle] at HLe;have HM:Hid (Calls Tryz.prog 98 #[.pointer (some ⟨C,0,none⟩),.int .i64 (p:Int)] (w.alloc q0c) fun e w'=>CtP B C s v op (nameT s.data.toList p) (w.alloc q0c) w' e):=(w_cName s p C v _ hp (by omega) HC0.out.box).mono (fun e w' h=>q1y HC0.out hB (open_name _ _ _) h);unfold q0c at HM HC0 HB0 HX0 HE0;clear HCl HNa HDg;generalize nameT s.data.toList p=t at *;obtain ⟨kd,pa,fi,tx,er⟩:=t;unfold CtP tokV at HM ⊢;dsimp only at HM ⊢;go_in;go_wp2_with fail;refine (HLe.out _).mono ?_;rintro e wq ⟨rfl,hwq⟩;obtain rfl:=hwq.symm;go_wp2_with fail;refine HM.out.mono ?_;rintro e w1 ⟨rfl,⟨v1,hcw⟩,hcl1,hbl⟩;have hX1:=(hcl1.block w.heap.size (by simp [q0c]) (Nat.ne_of_gt HC.out.box.lt) (fun e=>absurd (q14 HC.out.row _ e) (Nat.lt_irrefl _))).trans HX0.out;have HX:=hQz hX1;have HCW:=hQz hcw;have HCL:=hQz hcl1;have HBL:=hQz hbl;obtain ⟨kc0,kc1,kc2,kc3,kf0,kf1,kf2,kf3⟩:=q06 hX1;clear hcw hcl1 hbl hX1 c0;go_wp2_with fail;(try simp only [Exit.inBlock,Exit.then])
 generalize hz:((((w1).setCell ⟨w.heap.size,0,none⟩ (.int .i64 (kd:Int))).setCell ⟨w.heap.size,1,none⟩ (.int .i64 (pa:Int))).setCell ⟨w.heap.size,2,none⟩ (.int .i64 (fi:Int))).setCell ⟨w.heap.size,3,none⟩ (.string ⟨tx.toArray⟩)=wz;obtain ⟨z1,z2,z3,z4⟩:=q0k _ _ _ _ _ _ _ _ _ _ _ HX.out wz hz.symm;obtain ⟨hd0,hd1,hd2,hd3,_⟩:=q06 z1;refine bodyPost_ret (v:= .tuple #[.agg #[.int .i64 (kd:Int),.int .i64 (pa:Int),.int .i64 (fi:Int),.string ⟨tx.toArray⟩],.int .i64 (er:Int)]) (by simp [results,Tryz.results43,go_sem,hd0,hd1,hd2,hd3]) rfl ?_;exact ⟨rfl,q0z HC.out hB HB0.out HCL.out HBL.out HCW.out HX.out z2 z3 z4⟩
theorem w_tokB (B C:Nat) (s:ByteArray) (p:Nat) (v:Value) (op:List Nat) (w:World) (hp:p<s.size) (hs:s.size≤1073741824) (hC:CtW B C s v op w) (hB:B≤C) (hop:∀ x∈op,x≤1099511627776) (hln:op.length≤1099511627776) (hE:ErrIn w) (hle:leB s[p]=false) (h36:s[p].toNat=36):
 Calls Tryz.prog 43 #[.pointer (some ⟨C,0,none⟩),.int .i64 (p:Int)] w fun e w'=>CtP B C s v op (tokW s.data.toList op p) w w' e:=by
 have HLe:=hQz (fun u=>q0X s[p] u);have HDg:=hQz (fun u=>q1d s[p] u);have HNa:=hQz (fun u=>q11 s (p+1) u (by omega) (by omega));rw [show ((p+1:Nat):Int)=(p:Int)+1 by omega] at HNa;have hgd:=q0v hp;have hb0:=q0a w q0c;have hC0:=hC.keep hb0;have hE0:=hE.keep hb0;have c0:=hC0.box.c0;have hX00:=heap_alloc_new w q0c;have HCl:Hid (∀ w0,CtW B C s v op w0→Calls Tryz.prog 104 #[.pointer (some ⟨C,0,none⟩)] w0 fun e w'=>e= .returned (.bool (clsB op))∧w'=w0):=fun w0 h=>q1q B C s v op w0 h hln;have HC:=hQz hC;have HC0:=hQz hC0;have HB0:=hQz hb0;have HE0:=hQz hE0;have HX0:=hQz hX00;unfold q0c at c0;have hi0:(0:Int)≤(p:Int):=by omega
 have hi1:(p:Int)<(s.size:Int):=by omega
 obtain ⟨xi,hxi⟩:∃ xi:Int,((s[p].toNat:Nat):Int)=xi:=⟨_,rfl⟩;rw [hxi] at HLe HDg;have hlt:p<s.data.toList.length:=by rw [q0d];exact hp
 unfold tokW;rw [hgd];clear hC hC0 hE hE0 hb0 hX00;rw [if_neg (by rw [hle];decide)];rw [hle] at HLe;rw [if_pos h36];obtain rfl:36=xi:=by omega
 have HM:Hid (Calls Tryz.prog 99 #[.pointer (some ⟨C,0,none⟩),.int .i64 (p:Int)] (w.alloc q0c) fun e w'=>CtP B C s v op (varT s.data.toList p) (w.alloc q0c) w' e):=(w_cVar s p C v _ hp (by omega) HC0.out.box).mono (fun e w' h=>q1y HC0.out hB (open_var _ _ _) h);unfold q0c at HM HC0 HB0 HX0 HE0;clear HCl HNa HDg;generalize varT s.data.toList p=t at *;obtain ⟨kd,pa,fi,tx,er⟩:=t;unfold CtP tokV at HM ⊢;dsimp only at HM ⊢;go_in;go_wp2_with fail;refine (HLe.out _).mono ?_;rintro e wq ⟨rfl,hwq⟩;obtain rfl:=hwq.symm;go_wp2_with fail;refine HM.out.mono ?_;rintro e w1 ⟨rfl,⟨v1,hcw⟩,hcl1,hbl⟩;have hX1:=(hcl1.block w.heap.size (by simp [q0c]) (Nat.ne_of_gt HC.out.box.lt) (fun e=>absurd (q14 HC.out.row _ e) (Nat.lt_irrefl _))).trans HX0.out;have HX:=hQz hX1;have HCW:=hQz hcw;have HCL:=hQz hcl1;have HBL:=hQz hbl;obtain ⟨kc0,kc1,kc2,kc3,kf0,kf1,kf2,kf3⟩:=q06 hX1;clear hcw hcl1 hbl hX1 c0;go_wp2_with fail;(try simp only [Exit.inBlock,Exit.then])
 generalize hz:((((w1).setCell ⟨w.heap.size,0,none⟩ (.int .i64 (kd:Int))).setCell ⟨w.heap.size,1,none⟩ (.int .i64 (pa:Int))).setCell ⟨w.heap.size,2,none⟩ (.int .i64 (fi:Int))).setCell ⟨w.heap.size,3,none⟩ (.string ⟨tx.toArray⟩)=wz;obtain ⟨z1,z2,z3,z4⟩:=q0k _ _ _ _ _ _ _ _ _ _ _ HX.out wz hz.symm;obtain ⟨hd0,hd1,hd2,hd3,_⟩:=q06 z1;refine bodyPost_ret (v:= .tuple #[.agg #[.int .i64 (kd:Int),.int .i64 (pa:Int),.int .i64 (fi:Int),.string ⟨tx.toArray⟩],.int .i64 (er:Int)]) (by simp [results,Tryz.results43,go_sem,hd0,hd1,hd2,hd3]) rfl ?_;exact ⟨rfl,q0z HC.out hB HB0.out HCL.out HBL.out HCW.out HX.out z2 z3 z4⟩
end Go.Proofs.YtdjleoglphgdgaaGreatDoor
