import Derived.Test.YtdjleoglphgdgaaGreatDoorM3
import Derived.Test.YtdjleoglphgdgaaGreatDoorM51
import Derived.Lib.OthersKept
import Derived.Lib.Builder
import Derived.Lib.AppendStr
import Derived.Lib.UnsafeStr
import Derived.Shelf.RegionOpenPlain
import Derived.WalkKit
import Derived.Deep.RegionHeld3
import Derived.Test.YtdjleoglphgdgaaGreatDoorM50
import Derived.Test.YtdjleoglphgdgaaGreatDoorM13
set_option linter.unusedVariables false
set_option linter.unusedSimpArgs false
namespace Go.Proofs.YtdjleoglphgdgaaGreatDoor
open Go.RowKit
set_option maxRecDepth 100000
set_option maxHeartbeats 12800000
structure Pen (B S:Nat) (w:World) (l:List UInt8):Prop where
 lo:B≤S
 at_:∃ p v,w.heap[S]? =some (.cells #[p,v] 52 (0,0))∧(p= .pointer none∨p= .pointer (some ⟨S,0,none⟩))∧w.ownsRow B 5 1 v l.length (Lib.byteCells l)∧(l=[]→v= .slice none 0 0)
theorem q1J {w:World} {k:Nat} {o:Obj} (h:w.heap[k]? =some o):k<w.heap.size:=(Array.getElem?_eq_some_iff.1 h).1
theorem sizeB:(Tryz.prog.info? 50).map (·.size)=some 2:=by kernel_rfl
theorem liesB:liesAt Tryz.prog Tryz.prog.depth 52 (2 / Tryz.prog.cellsOf 52) 0 50 1=true:=by kernel_rfl
theorem copy_used (b:Nat) (w:World) (h0:w.cell? ⟨b,0,none⟩=some (.pointer (some ⟨b,0,none⟩))):
 Calls Tryz.prog 213 #[.pointer (some ⟨b,0,none⟩)] w fun e w'=>e= .returned (.tuple #[])∧w'=w:=by
 obtain ⟨j,hj,_⟩:=Option.map_eq_some_iff.1 sizeB;go_in
 go_wp2
 rw [Lib.run_neq_ptr_same w _ Tryz.underlying47 hj]
 go_wp2
 go_end0
 exact ⟨rfl,rfl⟩
theorem copy_fresh (b:Nat) (w:World) (h0:w.cell? ⟨b,0,none⟩=some (.pointer none)) (hsh:w.shape? b=some (52,2)) (hfz:w.frozen? ⟨b,0,none⟩=false):
 Calls Tryz.prog 213 #[.pointer (some ⟨b,0,none⟩)] w fun e w'=>e= .returned (.tuple #[])∧w'=w.setCell ⟨b,0,none⟩ (.pointer (some ⟨b,0,none⟩)):=by
 obtain ⟨j,hj,hjs⟩:=Option.map_eq_some_iff.1 sizeB;have hc1:=Lib.run_to_unsafe (P:=Tryz.prog) w ⟨b,0,none⟩ Tryz.underlying47 Tryz.underlying181 hj (by rw [hjs];decide) hsh (by show 0<2;omega);have hc2:=Lib.run_from_unsafe (P:=Tryz.prog) w ⟨b,0,none⟩ Tryz.underlying181 Tryz.underlying47 hj hsh liesB
 have hc3:(callFunc 232 #[.pointer (some ⟨b,0,none⟩)]).run Tryz.prog w= .ok (.value (.pointer (some ⟨b,0,none⟩))) w:=by
  rw [run_callFunc_extern Tryz.func232 (by kernel_rfl) (by kernel_rfl) (by kernel_rfl) (e:=Extern.AbiNoEscape.same) (by kernel_rfl),Lib.run_noEscape];rfl
 go_in
 go_wp2
 go_end0
 exact ⟨rfl,rfl⟩
theorem Pen.keep {B S:Nat} {w w':World} {l:List UInt8} (h:Pen B S w l) (hk:∀ k o,w.heap[k]? =some o→(k=S∨∃ c fz,o= .cells c 5 fz)→w'.heap[k]? =some o):Pen B S w' l:=by
 obtain ⟨p,v,hb,hp,hown,h0⟩:=h.at_;refine ⟨h.lo,p,v,hk S _ hb (.inl rfl),hp,⟨hown.1,?_⟩,h0⟩;rcases hown.2 with hn|⟨g,cap,cur,hv,hbg,hg,rest⟩
 · exact .inl hn
 · exact .inr ⟨g,cap,cur,hv,hbg,hk g _ hg (.inr ⟨_,_,rfl⟩),rest⟩
theorem w_WriteString (B S:Nat) (l:List UInt8) (s:ByteArray) (w:World) (h:Pen B S w l) (hlen:l.length+s.size≤140737488355328) (hBw:B≤w.heap.size):
 Calls Tryz.prog 185 #[.pointer (some ⟨S,0,none⟩),.string s] w fun e w'=>e= .returned (.tuple #[.int .i64 s.size,.nilIface])∧Pen B S w' (l++s.data.toList)∧Below B w w'∧Lib.OthersKept 5 (some S) w w':=by
 obtain ⟨i0,hi,hz0,hz1,hz2⟩:=info_parts Tryz.infoB;have hB:=h.lo
 have HC:Calls Tryz.prog 213 #[.pointer (some ⟨S,0,none⟩)] w fun e w1=>e= .returned (.tuple #[])∧∃ v,w1.heap[S]? =some (.cells #[.pointer (some ⟨S,0,none⟩),v] 52 (0,0))∧w1.ownsRow B 5 1 v l.length (Lib.byteCells l)∧(l=[]→v= .slice none 0 0)∧Below B w w1∧Lib.OthersKept 5 (some S) w w1∧w1.heap.size=w.heap.size:=by
  obtain ⟨p,v,hb,hp,hown,h0⟩:=h.at_;have c0:w.cell? ⟨S,0,none⟩=some p:=by rw [Lib.cell_of_heap hb];rfl
  rcases hp with rfl|rfl
  · refine (copy_fresh S w c0 (by simp [World.shape?,hb]) (Lib.frozen_of_heap hb 0)).mono ?_;rintro e w' ⟨rfl,rfl⟩
    have hne:v.ownBlock≠some S:=by
     intro e1;rcases hown.2 with ⟨rfl,_⟩|⟨g,cap,cur,rfl,_,hg,_⟩
     · simp [Value.ownBlock] at e1
     · simp [Value.ownBlock] at e1;rw [e1,hb] at hg;simp at hg
    refine ⟨rfl,v,?_,?_,h0,(Below.refl B w).setCell (p:=⟨S,0,none⟩) hB _,(Lib.OthersKept.refl _ _ w).setCell ⟨S,0,none⟩ rfl _,by simp [World.setCell]⟩
    · simp [World.setCell,Array.getElem?_modify,hb]
    · exact hown.kept (row:=some S) ⟨rfl,rfl,rfl,by simp [World.setCell],fun k _ hk=>Below.heap_setCell _ _ _ _ (fun e=>hk (by simp [e]))⟩ (Or.inr hne)
  · refine (copy_used S w c0).mono ?_;rintro e w' ⟨rfl,rfl⟩;exact ⟨rfl,v,hb,hown,h0,Below.refl B _,Lib.OthersKept.refl _ _ _,rfl⟩
 have HCH:=hQz HC;clear HC;go_in;go_wp2_with fail;refine HCH.out.mono ?_;rintro e w1 ⟨rfl,v,hbk,hown,h0,hb1,hk1,hsz⟩;have c1:w1.cell? ⟨S,1,none⟩=some v:=by rw [Lib.cell_of_heap hbk];rfl
 have HH:=hQz h0;have HS:=hQz hsz;clear h0 hsz;go_wp2_with (at_builtin;refine Lib.wpList_append_own_string _ rfl _ _ 48 9 rfl B 5 i0 Tryz.underlying48 Tryz.underlying9 hi hz0 hz1 hz2 _ _ _ rfl hown s rfl ?c3 ?c4 ?c5 ?_)
 case c3=>unfold maxLen;omega
 case c4=>omega
 case c5=>have:=hb1.size;omega
 intro v' w2 hown' hgrow hnil;have HN:=hQz hnil;clear hnil;have hlt:S<w1.heap.size:=q1J hbk
 have hne:v.ownBlock≠some S:=by
  intro e1;rcases hown.2 with ⟨rfl,_⟩|⟨g,cap,cur,rfl,_,hg,_⟩
  · simp [Value.ownBlock] at e1
  · simp [Value.ownBlock] at e1;rw [e1,hbk] at hg;simp at hg
 have hb2:w2.heap[S]? =some (.cells #[.pointer (some ⟨S,0,none⟩),v] 52 (0,0)):=by
  rw [hgrow.block S hlt (fun e=>hne e.symm)];exact hbk
 have d1:w2.cell? ⟨S,1,none⟩=some v:=by rw [Lib.cell_of_heap hb2];rfl
 have f1:w2.frozen? ⟨S,1,none⟩=false:=Lib.frozen_of_heap hb2 1
 have hne':v'.ownBlock≠some S:=by
  intro e1;rcases hown'.2 with ⟨rfl,_⟩|⟨g,cap,cur,rfl,_,hg,_⟩
  · simp [Value.ownBlock] at e1
  · simp [Value.ownBlock] at e1;rw [e1,hb2] at hg;simp at hg
 obtain ⟨ao,n',cap,rfl⟩:∃ ao n' cap,v'= .slice ao n' cap:=by
  rcases hown'.2 with ⟨hv,_⟩|⟨g,cap,cur,hv,_⟩
  · exact ⟨_,_,_,hv⟩
  · exact ⟨_,_,_,hv⟩
 go_wp2
 go_ret2
 refine ⟨rfl,⟨hB,.pointer (some ⟨S,0,none⟩),.slice ao n' cap,?_,.inr rfl,?_,?_⟩,?_,?_⟩
 · simp [World.setCell,Array.getElem?_modify,hb2]
 · have hl2:(l++s.data.toList).length=l.length+s.size:=by simp
   rw [hl2,Lib.byteCells_append];exact hown'.kept (row:=some S) ⟨rfl,rfl,rfl,by simp [World.setCell],fun k _ hk=>Below.heap_setCell _ _ _ _ (fun e=>hk (by simp [e]))⟩ (Or.inr hne')
 · intro he;have e1:=List.append_eq_nil_iff.1 he;refine HN.out.2 ⟨HH.out e1.1,?_⟩;have:s.data.toList.length=s.size:=by rw [Array.length_toList];rfl
   rw [e1.2] at this;simpa using this.symm
 · exact (hb1.grown hgrow (by have:=hb1.size;omega) (fun k hk=>(hown.lt k hk).1)).setCell (p:=⟨S,1,none⟩) hB _
 · exact (hk1.grown hgrow (Lib.ownsRowF_kind (World.ownsRowF_of hown))).setCell ⟨S,1,none⟩ rfl _
end Go.Proofs.YtdjleoglphgdgaaGreatDoor
namespace Go.Proofs.YtdjleoglphgdgaaGreatDoor
open Go.RowKit Go.Shelf Go.Sort
attribute [local go_sem] Oper.semAt_some
set_option maxRecDepth 100000
set_option maxHeartbeats 12800000
def pTabA:Array Value:=(pTab.flatMap fun r=>[.string ⟨r.1.toArray⟩,.int .i64 (r.2.1:Int),.int .i64 (r.2.2.1:Int),.int .i64 (r.2.2.2:Int)]).toArray
def PTabIn (w:World):Prop:=∃ t,w.heap[(0:Nat)]? =some (.cells pTabA t (0,0))
theorem PTabIn.lt {w:World} (h:PTabIn w):(0:Nat)<w.heap.size:=by
 obtain ⟨t,h⟩:=h;exact q1J h
theorem PTabIn.keep {w w':World} (h:PTabIn w) (hb:Below w.heap.size w w'):PTabIn w':=by
 have hl:=h.lt;obtain ⟨t,h⟩:=h;exact ⟨t,(hb.block _ hl).trans h⟩
structure PS (w0:World) (S:Nat) (w:World) (l:List UInt8):Prop where
 pen:Pen w0.heap.size S w l
 low:Below w0.heap.size w0 w
 tab:PTabIn w0
theorem PS.alloc {w0 w:World} {S:Nat} {l:List UInt8} (h:PS w0 S w l) (o:Obj):PS w0 S (w.alloc o) l:=
 ⟨h.pen.keep (fun k x hk _=>(Below.heap_alloc _ _ _ (q1J hk)).trans hk),h.low.alloc h.low.size o,h.tab⟩
theorem PS.type {w0 w:World} {S:Nat} {l:List UInt8} (h:PS w0 S w l):∃ cs,w.heap[S]? =some (.cells cs 52 (0,0)):=by
 obtain ⟨p,v,hb,_⟩:=h.pen.at_;exact ⟨_,hb⟩
theorem PS.lt {w0 w:World} {S:Nat} {l:List UInt8} (h:PS w0 S w l):S<w.heap.size:=by
 obtain ⟨cs,hb⟩:=h.type;exact q1J hb
theorem PS.drew {w0 w:World} {S:Nat} {l:List UInt8} (h:PS w0 S w l):PS w0 S w.drew l:=⟨h.pen.keep (fun k x hk _=>hk),Below.drew h.low,h.tab⟩
theorem q0l {w w':World} {S b:Nat} {cs:Array Value} {t:TypeId} {fz:Nat × Nat} (hk:Lib.OthersKept 5 (some S) w w') (h:w.heap[b]? =some (.cells cs t fz)) (hb:b≠S) (ht:t≠5):w'.heap[b]? =some (.cells cs t fz):=
 hk b _ h (fun e=>hb (Option.some.inj e)) (fun c f e=>by injection e with _ e2 _;exact ht e2)
theorem PS.ne {w0 w:World} {S b:Nat} {l:List UInt8} {cs:Array Value} {t:TypeId} {fz:Nat × Nat} (h:PS w0 S w l) (hb:w.heap[b]? =some (.cells cs t fz)) (ht:t≠52):b≠S:=by
 rintro rfl;obtain ⟨cs',h'⟩:=h.type;rw [hb] at h';injection h' with h';injection h' with _ e2 _;exact ht e2
def Say (w0:World) (S f:Nat) (args:Array Value) (X:List UInt8):Prop:=∀ w l,PS w0 S w l→l.length+X.length≤140737488355328→Calls Tryz.prog f args w fun e w'=>e= .returned (.tuple #[])∧PS w0 S w' (l++X)∧Lib.OthersKept 5 (some S) w w'
def psT (ps:List ByteArray):List UInt8:=ps.flatMap (fun p=>p.data.toList)
theorem psT_up {ps:List ByteArray} {k:Nat} (hk:k<ps.length):psT (ps.take (k+1))=psT (ps.take k)++ps[k].data.toList:=by
 unfold psT;rw [List.take_succ_eq_append_getElem hk,List.flatMap_append];simp
theorem psT_le {ps:List ByteArray} {k:Nat}:(psT (ps.take k)).length≤(psT ps).length:=by
 unfold psT
 conv=>rhs;rw [← List.take_append_drop k ps,List.flatMap_append,List.length_append]
 omega
theorem row_cell {w:World} {b:Nat} {ps:List ByteArray} {t:TypeId} {fz:Nat × Nat} (h:w.heap[b]? =some (.cells (ps.map Value.string).toArray t fz)) {k:Nat} (hk:k<ps.length):w.cell? ⟨b,k,none⟩=some (.string ps[k]):=by
 rw [cell_of_row _ _ _ _ _ _ h];simp [hk]
theorem w_put (w0:World) (S b:Nat) (ps:List ByteArray) (hn:ps.length≤1000) (w:World) (l:List UInt8) (hP:PS w0 S w l) (hrow:w.heap[b]? =some (.cells (ps.map Value.string).toArray 9 (0,0))) (hlen:l.length+(psT ps).length≤140737488355328):
 Calls Tryz.prog 137 #[.pointer (some ⟨S,0,none⟩),.slice (some ⟨b,0,none⟩) ps.length ps.length] w fun e w'=>e= .returned (.tuple #[])∧PS w0 S w' (l++psT ps)∧Lib.OthersKept 5 (some S) w w':=by
 have hbS:=hP.ne hrow (by decide);have HP:=hQz hP;have HR:=hQz hrow;obtain ⟨N,hN⟩:∃ N,N=ps.length:=⟨_,rfl⟩;rw [← hN] at hn ⊢;have HN:=hQz hN;have HL:=hQz hlen;clear hP hrow hN hlen;go_in;go_wp2_with fail
 go_loopw [8] (fun i wr=>∃ k:Nat,k≤N∧i= .int .i64 (k:Int)∧Hid (PS w0 S wr (l++psT (ps.take k)))∧Hid (Lib.OthersKept 5 (some S) w wr)) (fun i _=>N-(intOf i).toNat)
 case atStart=>exact ⟨0,Nat.zero_le _,rfl,by show PS _ _ _ _;simpa [psT] using HP.out,Lib.OthersKept.refl _ _ _⟩
 case round=>
  obtain ⟨k,hk,rfl,HPk,HKk⟩:=hrel;by_cases hlt:k<N
  · have hl1:(k:Int)<(N:Int):=by omega
    have hl0:(0:Int)≤(k:Int):=by omega
    have hkx:k<ps.length:=by rw [← HN.out];exact hlt
    have hrk:=row_cell (q0l HKk.out HR.out hbS (by decide)) hkx;have HU:=hQz (psT_up hkx)
    have hll:(l++psT (ps.take k)).length+(ps[k]).size≤140737488355328:=by
     have h1:=psT_le (ps:=ps) (k:=k+1);rw [HU.out] at h1;have h2:=HL.out;have h3:ps[k].data.toList.length=ps[k].size:=by rw [Array.length_toList];rfl
     simp only [List.length_append] at h1 h2 ⊢;omega
    have HW:=hQz (w_WriteString w0.heap.size S _ ps[k] wr HPk.out.pen hll HPk.out.low.size);generalize ps[k]=x at *;clear hkx hll;go_wp2_with fail;refine HW.out.mono ?_;rintro e w2 ⟨rfl,hp2,hb2,hk2⟩
    have HP2:Hid (PS w0 S w2 (l++psT (ps.take (k+1)))):=by
     refine ⟨?_,HPk.out.low.trans hb2,HPk.out.tab⟩;rw [HU.out,← List.append_assoc];exact hp2
    have HK2:Hid (Lib.OthersKept 5 (some S) w w2):=HKk.out.trans hk2;clear hp2 hb2 hk2 hrk;go_wp2_with fail;go_roundw
    case rel=>exact ⟨k+1,by omega,by go_num,HP2,HK2⟩
    case measure=>simp [intOf];omega
  · have hl1:¬ (k:Int)<(N:Int):=by omega
    have HPe:Hid (PS w0 S wr (l++psT ps)):=by
     have:=HPk.out;rw [List.take_of_length_le (by rw [← HN.out];omega)] at this;exact this
    go_wp2_with fail
    go_end0
    exact ⟨rfl,HPe.out,HKk.out⟩
theorem q0h {w0:World} {S:Nat} {w:World} {l:List UInt8} (hP:PS w0 S w l) (x:ByteArray) (X:List UInt8) (hx:x.data.toList=X) (hlen:l.length+X.length≤140737488355328):
 Calls Tryz.prog 137 #[.pointer (some ⟨S,0,none⟩),.slice (some ⟨w.heap.size,0,none⟩) 1 1] (w.alloc (.cells #[.string x] 9)) fun e w'=>e= .returned (.tuple #[])∧PS w0 S w' (l++X)∧Lib.OthersKept 5 (some S) w w':=by
 subst hx;have e1:psT [x]=x.data.toList:=by simp [psT]
 refine (w_put w0 S w.heap.size [x] (by simp) _ l (hP.alloc _) (heap_alloc_new w _) (by rw [e1];exact hlen)).mono ?_;rintro e w' ⟨rfl,hp,hk⟩;rw [e1] at hp;exact ⟨rfl,hp,((Lib.OthersKept.refl _ _ w).alloc _).trans hk⟩
theorem w_put2 {w0:World} {S:Nat} {w:World} {l:List UInt8} (hP:PS w0 S w l) (x y:ByteArray) (X:List UInt8) (hx:x.data.toList++y.data.toList=X) (hlen:l.length+X.length≤140737488355328):
 Calls Tryz.prog 137 #[.pointer (some ⟨S,0,none⟩),.slice (some ⟨w.heap.size,0,none⟩) 2 2] (w.alloc (.cells #[.string x,.string y] 9)) fun e w'=>e= .returned (.tuple #[])∧PS w0 S w' (l++X)∧Lib.OthersKept 5 (some S) w w':=by
 subst hx;have e1:psT [x,y]=x.data.toList++y.data.toList:=by simp [psT]
 refine (w_put w0 S w.heap.size [x,y] (by simp) _ l (hP.alloc _) (heap_alloc_new w _) (by rw [e1];exact hlen)).mono ?_;rintro e w' ⟨rfl,hp,hk⟩;rw [e1] at hp;exact ⟨rfl,hp,((Lib.OthersKept.refl _ _ w).alloc _).trans hk⟩
theorem w_put3 {w0:World} {S:Nat} {w:World} {l:List UInt8} (hP:PS w0 S w l) (x y z:ByteArray) (X:List UInt8) (hx:x.data.toList++(y.data.toList++z.data.toList)=X) (hlen:l.length+X.length≤140737488355328):
 Calls Tryz.prog 137 #[.pointer (some ⟨S,0,none⟩),.slice (some ⟨w.heap.size,0,none⟩) 3 3] (w.alloc (.cells #[.string x,.string y,.string z] 9)) fun e w'=>e= .returned (.tuple #[])∧PS w0 S w' (l++X)∧Lib.OthersKept 5 (some S) w w':=by
 subst hx;have e1:psT [x,y,z]=x.data.toList++(y.data.toList++z.data.toList):=by simp [psT]
 refine (w_put w0 S w.heap.size [x,y,z] (by simp) _ l (hP.alloc _) (heap_alloc_new w _) (by rw [e1];exact hlen)).mono ?_;rintro e w' ⟨rfl,hp,hk⟩;rw [e1] at hp;exact ⟨rfl,hp,((Lib.OthersKept.refl _ _ w).alloc _).trans hk⟩
theorem flat4 {R:Type} (f:R→List Value) (hf:∀ r,(f r).length=4):∀ (l:List R) (i j:Nat),j<4→(h:i<l.length)→(l.flatMap f)[i*4+j]? =(f l[i])[j]?
 | [],i,j,_,h=>absurd h (Nat.not_lt_zero _)
 | r::l,0,j,hj,_=>by
  rw [List.flatMap_cons,List.getElem?_append_left (by rw [hf];omega)];simp
 | r::l,i+1,j,hj,h=>by
  rw [List.flatMap_cons,List.getElem?_append_right (by rw [hf];omega),hf,show (i+1)*4+j-4=i*4+j by omega,flat4 f hf l i j hj (by simpa using h)];simp
theorem pTab_len:pTab.length=44:=rfl
theorem pRow_at {k:Nat} (hk:k<44):pRow (k:Int)=pTab[k]'(by rw [pTab_len];exact hk):=by
 unfold pRow;rw [if_neg (by omega),Int.toNat_natCast,List.getD_eq_getElem?_getD,List.getElem?_eq_getElem (by rw [pTab_len];exact hk)];rfl
theorem tab_all {k:Nat} (hk:k<44):pTabA[k*4]? =some (.string ⟨(pRow (k:Int)).1.toArray⟩)∧pTabA[k*4+1]? =some (.int .i64 ((pRow (k:Int)).2.1:Int))∧pTabA[k*4+2]? =some (.int .i64 ((pRow (k:Int)).2.2.1:Int))∧pTabA[k*4+3]? =some (.int .i64 ((pRow (k:Int)).2.2.2:Int)):=by
 rw [pRow_at hk];unfold pTabA;simp only [List.getElem?_toArray];have h:=fun j hj=>flat4 (fun r:List UInt8 × Nat × Nat × Nat=>([.string ⟨r.1.toArray⟩,.int .i64 (r.2.1:Int),.int .i64 (r.2.2.1:Int),.int .i64 (r.2.2.2:Int)]:List Value)) (fun _=>rfl) pTab k j hj (by rw [pTab_len];exact hk);exact ⟨h 0 (by omega),h 1 (by omega),h 2 (by omega),h 3 (by omega)⟩
theorem tab_at {w:World} (h:PTabIn w) {k:Nat} (hk:k<44):w.cell? ⟨0,k*4,none⟩=some (.string ⟨(pRow (k:Int)).1.toArray⟩)∧w.cell? ⟨0,k*4+1,none⟩=some (.int .i64 ((pRow (k:Int)).2.1:Int))∧w.cell? ⟨0,k*4+2,none⟩=some (.int .i64 ((pRow (k:Int)).2.2.1:Int))∧w.cell? ⟨0,k*4+3,none⟩=some (.int .i64 ((pRow (k:Int)).2.2.2:Int)):=by
 obtain ⟨t,h⟩:=h;have:=tab_all hk;refine ⟨?_,?_,?_,?_⟩ <;> rw [cell_of_row _ _ _ _ _ _ h]
 · exact this.1
 · exact this.2.1
 · exact this.2.2.1
 · exact this.2.2.2
theorem w_isOperation (k:Nat) (hk:k<44) (w:World) (hT:PTabIn w):Calls Tryz.prog 214 #[.int .i64 (k:Int)] w fun e w'=>e= .returned (.bool (decide (pSg (k:Int)≠[])))∧w'=w:=by
 obtain ⟨c0,c1,c2,c3⟩:=tab_at hT hk;have hl0:(0:Int)≤(k:Int):=by omega
 have hl1:(k:Int)<44:=by omega
 obtain ⟨R,HR⟩:∃ R,Hid (decide (pSg (k:Int)≠[])=R):=⟨_,rfl⟩;rw [HR.out]
 have HS:Hid ((!(⟨(pRow (k:Int)).1.toArray⟩:ByteArray).toList.isEmpty)=R):=by
  show _=_;rw [← HR.out,Lib.toList_data];unfold pSg
  cases hx:(pRow (k:Int)).1 with
  | nil=>rfl
  | cons a r=>rfl
 have hs:=HS.out;generalize (⟨(pRow (k:Int)).1.toArray⟩:ByteArray)=x at *;clear c1 c2 c3 HR;clear hs;go_in;go_wp2_with fail;go_ret;exact ⟨by rw [← HS.out];rfl,rfl⟩
theorem w_isTextP (h:Nat) (A:NT) (g o:Nat) (w:World) (hA:NAt w (h+1) A g o):Calls Tryz.prog 142 #[.pointer (some ⟨g,o,none⟩)] w fun e w'=>e= .returned (.bool (pTx A))∧w'=w:=by
 obtain ⟨aio,aic,ayo,ayc,ano,anc,ako,akc,HA⟩:=hA.open_;have c0:=HA.c0;have c3:=HA.c3;clear HA hA;unfold pTx;generalize A.op=op at *;generalize A.value.kind=kd at *;by_cases h2:op=2
 · subst h2;by_cases h4:kd=4
   · subst h4;go_in;go_wp2_with fail;go_ret;exact ⟨rfl,rfl⟩
   · have b4:(kd==4)=false:=by rw [bqZ];exact h4
     rw [decide_eq_false h4];go_in;go_wp2_with fail;go_ret;exact ⟨rfl,rfl⟩
 · have b2:(op==2)=false:=by rw [bqZ];exact h2
   rw [decide_eq_false h2];go_in;go_wp2_with fail;go_ret;exact ⟨rfl,rfl⟩
theorem w_looseness (h:Nat) (A:NT) (g o:Nat) (w:World) (hA:NAt w (h+1) A g o) (hT:PTabIn w) (hop:0≤A.op∧A.op<44):Calls Tryz.prog 187 #[.pointer (some ⟨g,o,none⟩)] w fun e w'=>e= .returned (.int .i64 (pLo A))∧w'=w:=by
 obtain ⟨aio,aic,ayo,ayc,ano,anc,ako,akc,HA⟩:=hA.open_;have c0:=HA.c0;have c9:=HA.c9;have hbig:=HA.kl.2;clear HA hA;unfold pLo;generalize A.kids.length=N at *;generalize A.op=op at *;obtain ⟨k,rfl⟩:∃ k:Nat,op=(k:Int):=⟨op.toNat,by omega⟩;have hk:k<44:=by omega
 have HI:=hQz (w_isOperation k hk w hT);obtain ⟨d0,d1,d2,d3⟩:=tab_at hT hk;have hl0:(0:Int)≤(k:Int):=by omega
 have hl1:(k:Int)<44:=by omega
 clear d0 d2 d3 hop hT;have hne:∀ z:Nat,z≠k→((k:Int)==(z:Int))=false:=fun z hz=>by rw [bqZ];omega
 by_cases k29:k=29
 · subst k29;rw [if_pos (by decide)];go_in;go_wp2_with fail;go_ret;exact ⟨rfl,rfl⟩
 have b29:=hne 29 (fun e=>k29 e.symm);simp only [Int.cast_ofNat_Int] at b29;by_cases k32:k=32
 · subst k32;rw [if_pos (by decide)];go_in;go_wp2_with fail;go_ret;exact ⟨rfl,rfl⟩
 have b32:=hne 32 (fun e=>k32 e.symm);simp only [Int.cast_ofNat_Int] at b32;by_cases k34:k=34
 · subst k34;rw [if_pos (by decide)];go_in;go_wp2_with fail;go_ret;exact ⟨rfl,rfl⟩
 have b34:=hne 34 (fun e=>k34 e.symm);simp only [Int.cast_ofNat_Int] at b34;by_cases k11:k=11
 · subst k11;rw [if_neg (by decide),if_pos (by decide)];go_in;go_wp2_with fail;go_ret;exact ⟨rfl,rfl⟩
 have b11:=hne 11 (fun e=>k11 e.symm);simp only [Int.cast_ofNat_Int] at b11;by_cases k10:k=10
 · subst k10;rw [if_neg (by decide),if_neg (by decide),if_pos (by decide)];have hwr:IntKind.i64.wrap (11-(N:Int))=11-(N:Int):=by rw [IntKind.wrap_i64];omega
   go_in;go_wp2_with fail;go_ret;exact ⟨rfl,rfl⟩
 have b10:=hne 10 (fun e=>k10 e.symm);simp only [Int.cast_ofNat_Int] at b10;rw [if_neg (by omega),if_neg (by omega),if_neg (by omega)];clear hne;by_cases hs:pSg (k:Int)≠[]
 · rw [decide_eq_true hs] at HI;rw [if_pos hs];generalize (pRow (k:Int)).2.1=lo at *;clear hs;go_in;go_wp2_with fail;refine HI.out.mono ?_;rintro e w2 ⟨rfl,hw2⟩;obtain rfl:=hw2.symm;go_wp2_with fail;go_ret;exact ⟨rfl,rfl⟩
 · rw [decide_eq_false hs] at HI;rw [if_neg hs];clear hs;go_in;go_wp2_with fail;refine HI.out.mono ?_;rintro e w2 ⟨rfl,hw2⟩;obtain rfl:=hw2.symm;go_wp2_with fail;go_ret;exact ⟨rfl,rfl⟩
theorem q1M (S:Nat) (k:Int) (w:World):Calls Tryz.prog 140 #[.pointer (some ⟨S,0,none⟩),.int .i64 k] w fun e w'=>e= .returned (.func (.func 186) #[] #[.pointer (some ⟨w.heap.size+1,0,none⟩),.pointer (some ⟨w.heap.size,0,none⟩)])∧w'=(w.alloc (.cells #[.pointer (some ⟨S,0,none⟩)] 74)).alloc (.cells #[.int .i64 k] 3):=by
 go_in;go_wp2_with fail;go_ret;exact ⟨rfl,rfl⟩
theorem box_cell {w:World} {b:Nat} {v:Value} {t:TypeId} (h:w.heap[b]? =some (.cells #[v] t (0,0))):w.cell? ⟨b,0,none⟩=some v:=by
 rw [cell_of_row _ _ _ _ _ _ h];rfl
theorem q2x (w0:World) (S h:Nat) (A:NT) (g o:Nat) (k:Int) (bk bp:Nat) (X:List UInt8) (hA:NAt w0 (h+1) A g o) (hop:0≤A.op∧A.op<44) (HT:Say w0 S 26 #[.pointer (some ⟨S,0,none⟩),.pointer (some ⟨g,o,none⟩)] X) (w:World) (l:List UInt8) (hP:PS w0 S w l)
 (hbk:w.heap[bk]? =some (.cells #[.int .i64 k] 3 (0,0))) (hbp:w.heap[bp]? =some (.cells #[.pointer (some ⟨S,0,none⟩)] 74 (0,0))) (hlen:l.length+(pHd X A k).length≤140737488355328):
 Calls Tryz.prog 186 #[.pointer (some ⟨g,o,none⟩),.pointer (some ⟨bk,0,none⟩),.pointer (some ⟨bp,0,none⟩)] w fun e w'=>e= .returned (.tuple #[])∧PS w0 S w' (l++pHd X A k)∧Lib.OthersKept 5 (some S) w w':=by
 have hpS:=hP.ne hbp (by decide);have HLo:Hid (∀ d os,Calls Tryz.prog 187 #[.pointer (some ⟨g,o,none⟩)] (grow (redrawn w d) os) fun e w'=>e= .returned (.int .i64 (pLo A))∧Below (grow (redrawn w d) os).heap.size (grow (redrawn w d) os) w'):=fun d os=>(w_looseness h A g o _ (hA.keep (hP.low.trans ((below_regrown w d os).mono hP.low.size))) (hP.tab.keep (hP.low.trans ((below_regrown w d os).mono hP.low.size))) hop).mono (by rintro e w' ⟨rfl,rfl⟩;exact ⟨rfl,Below.refl _ _⟩);have HS:=hQz HT;have HP:=hQz hP;have HBp:=hQz hbp;have ck:=box_cell hbk;have CK:=fun d os=>cell_regrown ck d os;have HL:=hQz hlen;clear hP HT hA hop hbp hlen;unfold pHd at HL ⊢;obtain ⟨lo,HLO⟩:∃ lo,Hid (lo=pLo A):=⟨_,rfl⟩;rw [← HLO.out] at HLo HL ⊢;clear HLO ck;by_cases hlo:lo<k
 · have hge:decide (k≤lo)=false:=by rw [decide_eq_false_iff_not];omega
   have hge2:¬ k≤lo:=by omega
   rw [decide_eq_true hlo] at HL ⊢;simp only [pBr,if_true] at HL ⊢;go_in;go_wp2_with fail;refine wp_region_quiet_below (by kernel_rfl) (by kernel_rfl) ?_
   repeat (go_big_quiet_step (exact Calls.regrown_of (HLo.out _ _)))
   refine wpQuiet_nil ?_;intro w2 hw'
   have HP2:Hid (PS w0 S w2 l∧Lib.OthersKept 5 (some S) w w2):=by
    obtain ⟨⟨dq,osq⟩,rfl⟩:=hw';have hb:=below_regrown w dq osq;exact ⟨⟨HP.out.pen.keep (fun j x hj _=>(hb.block _ (q1J hj)).trans hj),HP.out.low.trans (hb.mono HP.out.low.size),HP.out.tab⟩,fun j x hj _ _=>(hb.block _ (q1J hj)).trans hj⟩
   clear hw' CK;have c2:=box_cell (q0l HP2.out.2 HBp.out hpS (by decide));go_wp2_with fail;refine (q0h HP2.out.1 _ [40] rfl (by have:=HL.out;simp only [List.length_append,List.length_cons,List.length_nil] at this ⊢;omega)).mono ?_;rintro e w3 ⟨rfl,hp3,hk3⟩;have HP3:Hid (PS w0 S w3 (l++[40])∧Lib.OthersKept 5 (some S) w w3):=⟨hp3,HP2.out.2.trans hk3⟩;clear hp3 hk3 c2;have c3:=box_cell (q0l HP3.out.2 HBp.out hpS (by decide));go_wp2_with fail;refine (HS.out _ _ HP3.out.1 (by have:=HL.out;simp only [List.length_append,List.length_cons,List.length_nil] at this ⊢;omega)).mono ?_;rintro e w4 ⟨rfl,hp4,hk4⟩;have HP4:Hid (PS w0 S w4 (l++[40]++X)∧Lib.OthersKept 5 (some S) w w4):=⟨hp4,HP3.out.2.trans hk4⟩;clear hp4 hk4 c3;have c4:=box_cell (q0l HP4.out.2 HBp.out hpS (by decide));go_wp2_with fail;refine (q0h HP4.out.1 _ [41] rfl (by have:=HL.out;simp only [List.length_append,List.length_cons,List.length_nil] at this ⊢;omega)).mono ?_;rintro e w5 ⟨rfl,hp5,hk5⟩;have HP5:Hid (PS w0 S w5 (l++([40]++(X++[41])))∧Lib.OthersKept 5 (some S) w w5):=⟨by rw [show l++([40]++(X++[41]))=l++[40]++X++[41] by simp only [List.append_assoc]];exact hp5,HP4.out.2.trans hk5⟩;clear hp5 hk5 c4;go_wp2_with fail
   go_end0
   exact ⟨rfl,HP5.out⟩
 · have hge2:k≤lo:=by omega
   rw [decide_eq_false hlo] at HL ⊢;simp only [pBr] at HL ⊢;go_in;go_wp2_with fail;refine wp_region_quiet_below (by kernel_rfl) (by kernel_rfl) ?_
   repeat (go_big_quiet_step (exact Calls.regrown_of (HLo.out _ _)))
   refine wpQuiet_nil ?_;intro w2 hw'
   have HP2:Hid (PS w0 S w2 l∧Lib.OthersKept 5 (some S) w w2):=by
    obtain ⟨⟨dq,osq⟩,rfl⟩:=hw';have hb:=below_regrown w dq osq;exact ⟨⟨HP.out.pen.keep (fun j x hj _=>(hb.block _ (q1J hj)).trans hj),HP.out.low.trans (hb.mono HP.out.low.size),HP.out.tab⟩,fun j x hj _ _=>(hb.block _ (q1J hj)).trans hj⟩
   clear hw' CK;have c2:=box_cell (q0l HP2.out.2 HBp.out hpS (by decide));go_wp2_with fail;refine (HS.out _ _ HP2.out.1 (by have:=HL.out;simpa using this)).mono ?_;rintro e w4 ⟨rfl,hp4,hk4⟩;have HP4:Hid (PS w0 S w4 (l++X)∧Lib.OthersKept 5 (some S) w w4):=⟨hp4,HP2.out.2.trans hk4⟩;clear hp4 hk4 c2;go_wp2_with fail;(try simp only [Exit.inBlock,Exit.then])
   refine bodyPost_ret (results_none rfl _ _ _) rfl ?_;exact ⟨rfl,by simpa using HP4.out⟩
theorem PS.keep {w0 w w':World} {S:Nat} {l:List UInt8} (h:PS w0 S w l) (hb:Below w.heap.size w w'):PS w0 S w' l:=⟨h.pen.keep (fun j x hj _=>(hb.block _ (q1J hj)).trans hj),h.low.trans (hb.mono h.low.size),h.tab⟩
theorem ok_low {w w':World} {b:Option Nat} (hb:Below w.heap.size w w'):Lib.OthersKept 5 b w w':=fun j x hj _ _=>(hb.block _ (q1J hj)).trans hj
def fl (f:Nat→List UInt8) (n:Nat):List UInt8:=(List.range n).flatMap f
theorem fl_succ (f:Nat→List UInt8) (n:Nat):fl f (n+1)=fl f n++f n:=by
 unfold fl;rw [List.range_succ,List.flatMap_append];simp
theorem fl_pre (f:Nat→List UInt8) {k n:Nat} (h:k≤n):(fl f k).length≤(fl f n).length:=by
 induction n with
 | zero=>obtain rfl:k=0:=by omega
         exact Nat.le_refl _
 | succ n ih=>
  by_cases e:k=n+1
  · rw [e];exact Nat.le_refl _
  · rw [fl_succ,List.length_append];have:=ih (by omega);omega
theorem pRw_fl (f:Nat→List UInt8) (n:Nat):pRw f n=fl (fun i=>(if 0<i then [59,32] else [])++f i) n:=rfl
noncomputable def pKe1 (s:ByteArray):Int:=if okB s.data.toList=false then 1 else 0
theorem w_KeyP (s:ByteArray) (w:World) (hs:s.size≤68719476736):Calls Tryz.prog 17 #[.string s] w fun e w'=>e= .returned (.tuple #[.string ⟨(pKy s).toArray⟩,.int .i64 (pKe1 s)])∧Below w.heap.size w w':=by
 have HV:=hQz (fun u=>q1I s u (by omega));have HN:=hQz (fun u=>w_Named s u (by omega));have HQ:=hQz (fun u=>w_Quote s u hs)
 cases hv:okB s.data.toList with
 | false=>
  rw [hv] at HV;have e1:pKy s=[]:=by unfold pKy;rw [if_pos hv]
  have e2:pKe1 s=1:=by unfold pKe1;rw [if_pos hv]
  rw [e1,e2];clear hv e1 e2;go_in;go_wp2_with fail;refine (HV.out _).mono ?_;rintro e w1 ⟨rfl,hb1⟩;have HB1:=hQz hb1;clear hb1;go_wp2_with fail
  go_ret2
  exact ⟨rfl,HB1.out⟩
 | true=>
  rw [hv] at HV;have e2:pKe1 s=0:=by unfold pKe1;rw [if_neg (by rw [hv];decide)]
  rw [e2]
  cases hn:q2k s.data.toList with
  | true=>
   rw [hn] at HN;have e1:pKy s=s.data.toList:=by unfold pKy;rw [if_neg (by rw [hv];decide),if_pos hn]
   rw [e1,show (⟨s.data.toList.toArray⟩:ByteArray)=s from rfl];clear hv hn e1 e2;go_in;go_wp2_with fail;refine (HV.out _).mono ?_;rintro e w1 ⟨rfl,hb1⟩;have HB1:=hQz hb1;clear hb1;go_wp2_with fail;refine (HN.out _).mono ?_;rintro e w2 ⟨rfl,hw2⟩;obtain rfl:=hw2.symm;go_wp2_with fail
   go_ret2
   exact ⟨rfl,HB1.out⟩
  | false=>
   rw [hn] at HN;have e1:pKy s=pQt s:=by unfold pKy;rw [if_neg (by rw [hv];decide),if_neg (by rw [hn];decide)]
   rw [e1];unfold pQt;clear hv hn e1 e2;generalize (⟨(34::(qb (q18 s.data.toList)++[34])).toArray⟩:ByteArray)=y at *;go_in;go_wp2_with fail;refine (HV.out _).mono ?_;rintro e w1 ⟨rfl,hb1⟩;have HB1:=hQz hb1;clear hb1;go_wp2_with fail;refine (HN.out _).mono ?_;rintro e w2 ⟨rfl,hw2⟩;obtain rfl:=hw2.symm;go_wp2_with fail;refine (HQ.out _).mono ?_;rintro e w3 ⟨rfl,hb3⟩;have HB3:=hQz (HB1.out.trans (hb3.mono HB1.out.size));clear hb3;go_wp2_with fail
   go_ret2
   exact ⟨rfl,HB3.out⟩
theorem w_source (w0:World) (S h g o b off N kc:Nat) (K:Nat→NT) (t:Nat→List UInt8) (c9:w0.cell? ⟨g,o+9,none⟩=some (.slice (some ⟨b,off,none⟩) N kc)) (hcap:N≤kc) (hbig:N≤140737488355328) (hN:1≤N) (tx:ByteArray) (c2:w0.cell? ⟨g,o+2,none⟩=some (.string tx)) (hT:∀ i,i<N→Say w0 S 26 #[.pointer (some ⟨S,0,none⟩),.pointer (some ⟨b,off+i*10,none⟩)] (t i)) (hA:∀ i,i<N→NAt w0 (h+1) (K i) b (off+i*10)∧0≤(K i).op∧(K i).op<44):Say w0 S 144 #[.pointer (some ⟨S,0,none⟩),.pointer (some ⟨g,o,none⟩)] (sSrc K t tx):=by
 intro w l hP hlen;have HP0:=hQz (And.intro hP (Lib.OthersKept.refl 5 (some S) w));have HL:=hQz hlen;have q0:((0:Int)<(N:Int)):=by omega
 have mixed:Tryz.prog.follows .mixedOrders=true:=by kernel_rfl
 have HH:Hid (∀ i,i<N→∀ (k:Int) (bk bp:Nat) (w:World) (l:List UInt8),PS w0 S w l→w.heap[bk]? =some (.cells #[.int .i64 k] 3 (0,0))→w.heap[bp]? =some (.cells #[.pointer (some ⟨S,0,none⟩)] 74 (0,0))→l.length+(pHd (t i) (K i) k).length≤140737488355328→
  Calls Tryz.prog 186 #[.pointer (some ⟨b,off+i*10,none⟩),.pointer (some ⟨bk,0,none⟩),.pointer (some ⟨bp,0,none⟩)] w fun e w'=>e= .returned (.tuple #[])∧PS w0 S w' (l++pHd (t i) (K i) k)∧Lib.OthersKept 5 (some S) w w'):=fun i hi k bk bp w l hP h1 h2 h3=>q2x w0 S h (K i) b (off+i*10) k bk bp (t i) (hA i hi).1 (hA i hi).2 (hT i hi) w l hP h1 h2 h3
 have HC9:=hQz c9;have HC2:=hQz c2;clear hP hlen c9 c2 hT hA;go_in;have c90:=(HP0.out.1.low.cell (p:=⟨g,o+9,none⟩) (block_lt_of_cell HC9.out)).trans HC9.out;have c20:=(HP0.out.1.low.cell (p:=⟨g,o+2,none⟩) (block_lt_of_cell HC2.out)).trans HC2.out;go_wp2_with fail;refine wp_region_held_drew (S:=(fun u=>u.cell? ⟨g,o+9,none⟩=some (.slice (some ⟨b,off,none⟩) N kc))) (by kernel_rfl) (by exact c90) (fun hHeld=> ?_);refine wpAnyH_take (i:=0) (oi:=_) (v:= .pointer (some ⟨S,0,none⟩)) rfl (by kernel_rfl) (by kernel_rfl) (by kernel_rfl) (fun _ _ _ h=>h) (.inl ⟨by rfl,?_⟩) (by assumption) ?_
 · intro w hSw;go_simp
   try (intro hq;exfalso;omega)
 try simp only [Act.put,qsA,qsB,qsC]
 refine wpAnyH_take (i:=2) (oi:=_) (v:= .pointer (some ⟨g,o,none⟩)) rfl (by kernel_rfl) (by kernel_rfl) (by kernel_rfl) (fun _ _ _ h=>h) (.inl ⟨by rfl,?_⟩) (by assumption) ?_
 · intro w hSw;go_simp
   try (intro hq;exfalso;omega)
 try simp only [Act.put,qsA,qsB,qsC]
 refine wpAnyH_take (i:=3) (oi:=_) (v:= .pointer (some ⟨g,o,none⟩)) rfl (by kernel_rfl) (by kernel_rfl) (by kernel_rfl) (fun _ _ _ h=>h) (.inl ⟨by rfl,?_⟩) (by assumption) ?_
 · intro w hSw;go_simp
   try (intro hq;exfalso;omega)
 try simp only [Act.put,qsA,qsB,qsC]
 refine wpAnyH_take (i:=4) (oi:=_) (v:= .pointer (some ⟨g,o+9,none⟩)) rfl (by kernel_rfl) (by kernel_rfl) (by kernel_rfl) (fun _ _ _ h=>h) (.inl ⟨by rfl,?_⟩) (by assumption) ?_
 · intro w hSw;go_simp
   try (intro hq;exfalso;omega)
 try simp only [Act.put,qsA,qsB,qsC]
 refine wpAnyH_take (i:=5) (oi:=_) (v:= .slice (some ⟨b,off,none⟩) N kc) rfl (by kernel_rfl) (by kernel_rfl) (by kernel_rfl) (fun _ _ _ h=>h) (.inl ⟨by rfl,?_⟩) (by assumption) ?_
 · intro w hSw;go_simp
   try (intro hq;exfalso;omega)
 try simp only [Act.put,qsA,qsB,qsC]
 refine wpAnyH_take (i:=6) (oi:=_) (v:= .pointer (some ⟨b,off+0*10,none⟩)) rfl (by kernel_rfl) (by kernel_rfl) (by kernel_rfl) (fun _ _ _ h=>h) (.inl ⟨by rfl,?_⟩) (by assumption) ?_
 · intro w hSw;go_simp
   try (intro hq;exfalso;omega)
 try simp only [Act.put,qsA,qsB,qsC]
 refine wpAnyH_ready (rs:=[1]) (by kernel_rfl) (by simp) ?_;refine AllReadyH.cons (o:=_) rfl (fun K2 hK2=> ?_) AllReadyH.nil;go_simp;go_at_call 140;refine (q1M S 10 _).mono ?_;rintro e wh ⟨rfl,hwh⟩;have HPh:Hid (PS w0 S wh (l)∧Lib.OthersKept 5 (some S) w wh):=by rw [hwh];exact ⟨(HP0.out.1.drew.alloc _).alloc _,(Lib.OthersKept.drew HP0.out.2).alloc _ |>.alloc _⟩
 have HBk:Hid (wh.heap[w.drew.heap.size+1]? =some (.cells #[.int .i64 (10)] 3 (0,0))∧wh.heap[w.drew.heap.size]? =some (.cells #[.pointer (some ⟨S,0,none⟩)] 74 (0,0))):=by rw [hwh];exact ⟨by have:=heap_alloc_new (w.drew.alloc (.cells #[.pointer (some ⟨S,0,none⟩)] 74)) (.cells #[.int .i64 (10)] 3);simpa using this,(Below.heap_alloc _ _ _ (by simp)).trans (heap_alloc_new _ _)⟩
 clear hwh;have c9h:=(HPh.out.1.low.cell (p:=⟨g,o+9,none⟩) (block_lt_of_cell HC9.out)).trans HC9.out;have c2h:=(HPh.out.1.low.cell (p:=⟨g,o+2,none⟩) (block_lt_of_cell HC2.out)).trans HC2.out;go_wp2_with fail;refine hK2.out _ _ (by exact c9h) (fun hHeld=> ?_);clear hK2 K2
 try simp only [Act.put,qsA,qsB,qsC]
 refine wpAnyH_ready (rs:=[7]) (by kernel_rfl) (by simp) ?_;refine AllReadyH.cons (o:=_) rfl (fun K2 hK2=> ?_) AllReadyH.nil;go_simp;go_at_call 186;refine (HH.out (0) (by omega) (10) _ _ _ _ HPh.out.1 HBk.out.1 HBk.out.2 (by have:=HL.out;simp only [sSrc,List.length_append,List.length_cons,List.length_nil] at this ⊢;omega)).mono ?_;rintro e w1 ⟨rfl,hp,hk⟩;have HP1:Hid (PS w0 S w1 (l++pHd (t (0)) (K (0)) (10))∧Lib.OthersKept 5 (some S) w w1):=⟨hp,HPh.out.2.trans hk⟩;clear hp hk;have c9j:=(HP1.out.1.low.cell (p:=⟨g,o+9,none⟩) (block_lt_of_cell HC9.out)).trans HC9.out;have c2j:=(HP1.out.1.low.cell (p:=⟨g,o+2,none⟩) (block_lt_of_cell HC2.out)).trans HC2.out;go_wp2_with fail;refine hK2.out _ _ (by exact c9j) (fun hHeld=> ?_);clear hK2 K2 hHeld
 try simp only [Act.put,qsA,qsB,qsC]
 refine wpAnyH_done (by kernel_rfl) ?_ _;clear HPh HBk c90 c9h c9j c20 c2h c2j;have c91:=(HP1.out.1.low.cell (p:=⟨g,o+9,none⟩) (block_lt_of_cell HC9.out)).trans HC9.out;have c21:=(HP1.out.1.low.cell (p:=⟨g,o+2,none⟩) (block_lt_of_cell HC2.out)).trans HC2.out;go_wp2_with fail;refine (w_put3 HP1.out.1 _ _ _ ([32,97,115,32,36]++(tx.data.toList++[32])) rfl (by have:=HL.out;simp only [sSrc,List.length_append,List.length_cons,List.length_nil] at this ⊢;omega)).mono ?_;rintro e w2 ⟨rfl,hp,hk⟩;have HP2:Hid (PS w0 S w2 (l++pHd (t (0)) (K (0)) (10)++([32,97,115,32,36]++(tx.data.toList++[32])))∧Lib.OthersKept 5 (some S) w w2):=⟨hp,HP1.out.2.trans hk⟩;clear hp hk;clear c91 c21;go_wp2_with fail
 go_end0
 refine ⟨rfl,?_,HP2.out.2⟩;have hz:=HP2.out.1;simp only [sSrc]
 try simp only [List.append_assoc,List.cons_append,List.nil_append] at hz ⊢
 exact hz
theorem w_base (w0:World) (S h:Nat) (A:NT) (g o:Nat) (X:List UInt8) (hA:NAt w0 (h+1) A g o) (hop:0≤A.op∧A.op<44) (hT:Say w0 S 26 #[.pointer (some ⟨S,0,none⟩),.pointer (some ⟨g,o,none⟩)] X):Say w0 S 141 #[.pointer (some ⟨S,0,none⟩),.pointer (some ⟨g,o,none⟩)] (pBs X A):=by
 have HH:Hid (∀ (k:Int) (bk bp:Nat) (w:World) (l:List UInt8),PS w0 S w l→w.heap[bk]? =some (.cells #[.int .i64 k] 3 (0,0))→w.heap[bp]? =some (.cells #[.pointer (some ⟨S,0,none⟩)] 74 (0,0))→l.length+(pHd X A k).length≤140737488355328→
  Calls Tryz.prog 186 #[.pointer (some ⟨g,o,none⟩),.pointer (some ⟨bk,0,none⟩),.pointer (some ⟨bp,0,none⟩)] w fun e w'=>e= .returned (.tuple #[])∧PS w0 S w' (l++pHd X A k)∧Lib.OthersKept 5 (some S) w w'):=fun k bk bp w l hP h1 h2 h3=>q2x w0 S h A g o k bk bp X hA hop hT w l hP h1 h2 h3
 obtain ⟨aio,aic,ayo,ayc,ano,anc,ako,akc,HA⟩:=hA.open_;have HC0:=hQz HA.c0;have HC3:=hQz HA.c3;clear HA hA hop hT;have HE:Hid (pBs X A=pHd X A (if A.op=2∧A.value.kind=3 then 11 else 10)):=rfl;rw [HE.out];clear HE;generalize A.op=op at *;generalize A.value.kind=kd at *;by_cases h2:op=2
 · subst h2;by_cases h3:kd=3
   · subst h3;rw [if_pos ⟨rfl,rfl⟩];intro w l hP hlen;have HP0:=hQz (And.intro hP (Lib.OthersKept.refl 5 (some S) w));have HL:=hQz hlen;clear hP hlen;go_in;have c00:=(HP0.out.1.low.cell (p:=⟨g,o,none⟩) (block_lt_of_cell HC0.out)).trans HC0.out;have c30:=(HP0.out.1.low.cell (p:=⟨g,o+3,none⟩) (block_lt_of_cell HC3.out)).trans HC3.out;go_wp2_with fail;refine (q1M S 11 _).mono ?_;rintro e wh ⟨rfl,hwh⟩;have HPh:Hid (PS w0 S wh (l)∧Lib.OthersKept 5 (some S) w wh):=by rw [hwh];exact ⟨(HP0.out.1.alloc _).alloc _,(HP0.out.2.alloc _).alloc _⟩
     have HBk:Hid (wh.heap[w.heap.size+1]? =some (.cells #[.int .i64 (11)] 3 (0,0))∧wh.heap[w.heap.size]? =some (.cells #[.pointer (some ⟨S,0,none⟩)] 74 (0,0))):=by rw [hwh];exact ⟨by have:=heap_alloc_new (w.alloc (.cells #[.pointer (some ⟨S,0,none⟩)] 74)) (.cells #[.int .i64 (11)] 3);simpa using this,(Below.heap_alloc _ _ _ (by simp)).trans (heap_alloc_new _ _)⟩
     clear hwh;clear c00 c30;go_wp2_with fail;refine (HH.out (11) _ _ _ _ HPh.out.1 HBk.out.1 HBk.out.2 (by have:=HL.out;omega)).mono ?_;rintro e w1 ⟨rfl,hp,hk⟩;have HP1:Hid (PS w0 S w1 (l++pHd X A (11))∧Lib.OthersKept 5 (some S) w w1):=⟨hp,HPh.out.2.trans hk⟩;clear hp hk HPh HBk;go_wp2_with fail
     go_end0
     refine ⟨rfl,?_,HP1.out.2⟩;have hz:=HP1.out.1
     try simp only [List.append_assoc,List.cons_append,List.nil_append] at hz ⊢
     exact hz
   · have b3:(kd==3)=false:=by rw [bqZ];exact h3
     rw [if_neg (fun h=>h3 h.2)];intro w l hP hlen;have HP0:=hQz (And.intro hP (Lib.OthersKept.refl 5 (some S) w));have HL:=hQz hlen;clear hP hlen;go_in;have c00:=(HP0.out.1.low.cell (p:=⟨g,o,none⟩) (block_lt_of_cell HC0.out)).trans HC0.out;have c30:=(HP0.out.1.low.cell (p:=⟨g,o+3,none⟩) (block_lt_of_cell HC3.out)).trans HC3.out;go_wp2_with fail;refine (q1M S 10 _).mono ?_;rintro e wh ⟨rfl,hwh⟩;have HPh:Hid (PS w0 S wh (l)∧Lib.OthersKept 5 (some S) w wh):=by rw [hwh];exact ⟨(HP0.out.1.alloc _).alloc _,(HP0.out.2.alloc _).alloc _⟩
     have HBk:Hid (wh.heap[w.heap.size+1]? =some (.cells #[.int .i64 (10)] 3 (0,0))∧wh.heap[w.heap.size]? =some (.cells #[.pointer (some ⟨S,0,none⟩)] 74 (0,0))):=by rw [hwh];exact ⟨by have:=heap_alloc_new (w.alloc (.cells #[.pointer (some ⟨S,0,none⟩)] 74)) (.cells #[.int .i64 (10)] 3);simpa using this,(Below.heap_alloc _ _ _ (by simp)).trans (heap_alloc_new _ _)⟩
     clear hwh;clear c00 c30;go_wp2_with fail;refine (HH.out (10) _ _ _ _ HPh.out.1 HBk.out.1 HBk.out.2 (by have:=HL.out;omega)).mono ?_;rintro e w1 ⟨rfl,hp,hk⟩;have HP1:Hid (PS w0 S w1 (l++pHd X A (10))∧Lib.OthersKept 5 (some S) w w1):=⟨hp,HPh.out.2.trans hk⟩;clear hp hk HPh HBk;go_wp2_with fail
     go_end0
     refine ⟨rfl,?_,HP1.out.2⟩;have hz:=HP1.out.1
     try simp only [List.append_assoc,List.cons_append,List.nil_append] at hz ⊢
     exact hz
 · have b2:(op==2)=false:=by rw [bqZ];exact h2
   rw [if_neg (fun h=>h2 h.1)];intro w l hP hlen;have HP0:=hQz (And.intro hP (Lib.OthersKept.refl 5 (some S) w));have HL:=hQz hlen;clear hP hlen;go_in;have c00:=(HP0.out.1.low.cell (p:=⟨g,o,none⟩) (block_lt_of_cell HC0.out)).trans HC0.out;have c30:=(HP0.out.1.low.cell (p:=⟨g,o+3,none⟩) (block_lt_of_cell HC3.out)).trans HC3.out;go_wp2_with fail;refine (q1M S 10 _).mono ?_;rintro e wh ⟨rfl,hwh⟩;have HPh:Hid (PS w0 S wh (l)∧Lib.OthersKept 5 (some S) w wh):=by rw [hwh];exact ⟨(HP0.out.1.alloc _).alloc _,(HP0.out.2.alloc _).alloc _⟩
   have HBk:Hid (wh.heap[w.heap.size+1]? =some (.cells #[.int .i64 (10)] 3 (0,0))∧wh.heap[w.heap.size]? =some (.cells #[.pointer (some ⟨S,0,none⟩)] 74 (0,0))):=by rw [hwh];exact ⟨by have:=heap_alloc_new (w.alloc (.cells #[.pointer (some ⟨S,0,none⟩)] 74)) (.cells #[.int .i64 (10)] 3);simpa using this,(Below.heap_alloc _ _ _ (by simp)).trans (heap_alloc_new _ _)⟩
   clear hwh;clear c00 c30;go_wp2_with fail;refine (HH.out (10) _ _ _ _ HPh.out.1 HBk.out.1 HBk.out.2 (by have:=HL.out;omega)).mono ?_;rintro e w1 ⟨rfl,hp,hk⟩;have HP1:Hid (PS w0 S w1 (l++pHd X A (10))∧Lib.OthersKept 5 (some S) w w1):=⟨hp,HPh.out.2.trans hk⟩;clear hp hk HPh HBk;go_wp2_with fail
   go_end0
   refine ⟨rfl,?_,HP1.out.2⟩;have hz:=HP1.out.1
   try simp only [List.append_assoc,List.cons_append,List.nil_append] at hz ⊢
   exact hz
theorem w_end (w0:World) (S h:Nat) (A:NT) (g o:Nat) (X:List UInt8) (hA:NAt w0 (h+1) A g o) (hT:A.op≠0→Say w0 S 26 #[.pointer (some ⟨S,0,none⟩),.pointer (some ⟨g,o,none⟩)] X):Say w0 S 143 #[.pointer (some ⟨S,0,none⟩),.pointer (some ⟨g,o,none⟩)] (pEn X A):=by
 obtain ⟨aio,aic,ayo,ayc,ano,anc,ako,akc,HA⟩:=hA.open_;have HC0:=hQz HA.c0;clear HA hA;unfold pEn;have HS:=hQz hT;clear hT;generalize A.op=op at *;by_cases h0:op=0
 · subst h0;rw [if_pos rfl];intro w l hP hlen;have HP0:=hQz (And.intro hP (Lib.OthersKept.refl 5 (some S) w));have HL:=hQz hlen;clear hP hlen;go_in;have c00:=(HP0.out.1.low.cell (p:=⟨g,o,none⟩) (block_lt_of_cell HC0.out)).trans HC0.out;go_wp2_with fail
   go_end0
   exact ⟨rfl,by simpa using HP0.out.1,HP0.out.2⟩
 · have b0:(op != 0)=true:=by simpa using h0
   have HS2:=hQz (HS.out h0);rw [if_neg h0];clear HS;intro w l hP hlen;have HP0:=hQz (And.intro hP (Lib.OthersKept.refl 5 (some S) w));have HL:=hQz hlen;clear hP hlen;go_in;have c00:=(HP0.out.1.low.cell (p:=⟨g,o,none⟩) (block_lt_of_cell HC0.out)).trans HC0.out;go_wp2_with fail;refine (HS2.out _ _ HP0.out.1 (by have:=HL.out;omega)).mono ?_;rintro e w1 ⟨rfl,hp,hk⟩;have HP1:Hid (PS w0 S w1 (l++(X))∧Lib.OthersKept 5 (some S) w w1):=⟨hp,HP0.out.2.trans hk⟩;clear hp hk;clear c00;go_wp2_with fail
   go_end0
   refine ⟨rfl,?_,HP1.out.2⟩;have hz:=HP1.out.1
   try simp only [List.append_assoc,List.cons_append,List.nil_append] at hz ⊢
   exact hz
theorem w_key (w0:World) (S h:Nat) (A:NT) (g o:Nat) (X:List UInt8) (hA:NAt w0 (h+1) A g o) (hop:0≤A.op∧A.op<44) (hs:A.value.text.size≤68719476736) (hT:Say w0 S 26 #[.pointer (some ⟨S,0,none⟩),.pointer (some ⟨g,o,none⟩)] X):Say w0 S 139 #[.pointer (some ⟨S,0,none⟩),.pointer (some ⟨g,o,none⟩)] (pKe X A):=by
 have HH:Hid (∀ (k:Int) (bk bp:Nat) (w:World) (l:List UInt8),PS w0 S w l→w.heap[bk]? =some (.cells #[.int .i64 k] 3 (0,0))→w.heap[bp]? =some (.cells #[.pointer (some ⟨S,0,none⟩)] 74 (0,0))→l.length+(pHd X A k).length≤140737488355328→
  Calls Tryz.prog 186 #[.pointer (some ⟨g,o,none⟩),.pointer (some ⟨bk,0,none⟩),.pointer (some ⟨bp,0,none⟩)] w fun e w'=>e= .returned (.tuple #[])∧PS w0 S w' (l++pHd X A k)∧Lib.OthersKept 5 (some S) w w'):=fun k bk bp w l hP h1 h2 h3=>q2x w0 S h A g o k bk bp X hA hop hT w l hP h1 h2 h3
 have HX:Hid (∀ u,Below w0.heap.size w0 u→Calls Tryz.prog 142 #[.pointer (some ⟨g,o,none⟩)] u fun e w'=>e= .returned (.bool (pTx A))∧w'=u):=fun u hu=>w_isTextP h A g o u (hA.keep hu);have HK:=hQz (fun u=>w_KeyP A.value.text u hs);have HS:=hQz hT;obtain ⟨aio,aic,ayo,ayc,ano,anc,ako,akc,HA⟩:=hA.open_;have HC0:=hQz HA.c0;have HC5:=hQz HA.c5;clear HA hA hop hT hs;unfold pKe
 cases hx:pTx A with
 | true=>
  rw [hx] at HX;rw [if_pos rfl];generalize A.value.text=tx at *;generalize pKe1 tx=er at *;generalize hky:pKy tx=Y at *;clear hky hx HH HS;intro w l hP hlen;have HP0:=hQz (And.intro hP (Lib.OthersKept.refl 5 (some S) w));have HL:=hQz hlen;clear hP hlen;go_in;have c00:=(HP0.out.1.low.cell (p:=⟨g,o,none⟩) (block_lt_of_cell HC0.out)).trans HC0.out;have c50:=(HP0.out.1.low.cell (p:=⟨g,o+5,none⟩) (block_lt_of_cell HC5.out)).trans HC5.out;go_wp2_with fail;refine (HX.out _ HP0.out.1.low).mono ?_;rintro e w1 ⟨rfl,hw1⟩;obtain rfl:=hw1.symm;go_wp2_with fail;refine (HK.out _).mono ?_;rintro e w2 ⟨rfl,hb2⟩;have HP2:Hid (PS w0 S w2 l∧Lib.OthersKept 5 (some S) w w2):=⟨HP0.out.1.keep hb2,ok_low hb2⟩;clear hb2 c00 c50;go_wp2_with fail;refine (q0h HP2.out.1 _ (Y) rfl (by have:=HL.out;omega)).mono ?_;rintro e w3 ⟨rfl,hp,hk⟩;have HP3:Hid (PS w0 S w3 (l++(Y))∧Lib.OthersKept 5 (some S) w w3):=⟨hp,HP2.out.2.trans hk⟩;clear hp hk;go_wp2_with fail
  go_end0
  refine ⟨rfl,?_,HP3.out.2⟩;have hz:=HP3.out.1
  try simp only [List.append_assoc,List.cons_append,List.nil_append] at hz ⊢
  exact hz
 | false=>
  rw [hx] at HX;rw [if_neg (by decide)];clear hx HK;generalize hop2:A.op=op at *;by_cases h3:op=3
  · subst h3;rw [if_pos rfl];clear HH hop2;intro w l hP hlen;have HP0:=hQz (And.intro hP (Lib.OthersKept.refl 5 (some S) w));have HL:=hQz hlen;clear hP hlen;go_in;have c00:=(HP0.out.1.low.cell (p:=⟨g,o,none⟩) (block_lt_of_cell HC0.out)).trans HC0.out;go_wp2_with fail;refine (HX.out _ HP0.out.1.low).mono ?_;rintro e w1 ⟨rfl,hw1⟩;obtain rfl:=hw1.symm;clear c00;have c00:=(HP0.out.1.low.cell (p:=⟨g,o,none⟩) (block_lt_of_cell HC0.out)).trans HC0.out;go_wp2_with fail;refine (HS.out _ _ HP0.out.1 (by have:=HL.out;omega)).mono ?_;rintro e w1 ⟨rfl,hp,hk⟩;have HP1:Hid (PS w0 S w1 (l++(X))∧Lib.OthersKept 5 (some S) w w1):=⟨hp,HP0.out.2.trans hk⟩;clear hp hk;clear c00;go_wp2_with fail
    go_end0
    refine ⟨rfl,?_,HP1.out.2⟩;have hz:=HP1.out.1
    try simp only [List.append_assoc,List.cons_append,List.nil_append] at hz ⊢
    exact hz
  · have b3:(op==3)=false:=by rw [bqZ];exact h3
    rw [if_neg h3];clear HS hop2;intro w l hP hlen;have HP0:=hQz (And.intro hP (Lib.OthersKept.refl 5 (some S) w));have HL:=hQz hlen;clear hP hlen;go_in;have c00:=(HP0.out.1.low.cell (p:=⟨g,o,none⟩) (block_lt_of_cell HC0.out)).trans HC0.out;go_wp2_with fail;refine (HX.out _ HP0.out.1.low).mono ?_;rintro e w1 ⟨rfl,hw1⟩;obtain rfl:=hw1.symm;clear c00;have c00:=(HP0.out.1.low.cell (p:=⟨g,o,none⟩) (block_lt_of_cell HC0.out)).trans HC0.out;go_wp2_with fail;refine (q1M S 11 _).mono ?_;rintro e wh ⟨rfl,hwh⟩;have HPh:Hid (PS w0 S wh (l)∧Lib.OthersKept 5 (some S) w wh):=by rw [hwh];exact ⟨(HP0.out.1.alloc _).alloc _,(HP0.out.2.alloc _).alloc _⟩
    have HBk:Hid (wh.heap[w.heap.size+1]? =some (.cells #[.int .i64 (11)] 3 (0,0))∧wh.heap[w.heap.size]? =some (.cells #[.pointer (some ⟨S,0,none⟩)] 74 (0,0))):=by rw [hwh];exact ⟨by have:=heap_alloc_new (w.alloc (.cells #[.pointer (some ⟨S,0,none⟩)] 74)) (.cells #[.int .i64 (11)] 3);simpa using this,(Below.heap_alloc _ _ _ (by simp)).trans (heap_alloc_new _ _)⟩
    clear hwh;clear c00;go_wp2_with fail;refine (HH.out (11) _ _ _ _ HPh.out.1 HBk.out.1 HBk.out.2 (by have:=HL.out;omega)).mono ?_;rintro e w1 ⟨rfl,hp,hk⟩;have HP1:Hid (PS w0 S w1 (l++pHd X A (11))∧Lib.OthersKept 5 (some S) w w1):=⟨hp,HPh.out.2.trans hk⟩;clear hp hk HPh HBk;go_wp2_with fail
    go_end0
    refine ⟨rfl,?_,HP1.out.2⟩;have hz:=HP1.out.1
    try simp only [List.append_assoc,List.cons_append,List.nil_append] at hz ⊢
    exact hz
theorem w_row (w0:World) (S b off n c:Nat) (so:Option Addr) (t:Nat→List UInt8) (hso:0<n→so=some ⟨b,off,none⟩) (hcap:n≤c) (hbig:n≤140737488355328) (hT:∀ i,i<n→Say w0 S 26 #[.pointer (some ⟨S,0,none⟩),.pointer (some ⟨b,off+i*10,none⟩)] (t i)):Say w0 S 138 #[.pointer (some ⟨S,0,none⟩),.slice so n c] (pRw t n):=by
 rw [pRw_fl];obtain ⟨f,hf⟩:∃ f,f=(fun i=>(if 0<i then [59,32] else [])++t i):=⟨_,rfl⟩;rw [← hf];have HF:=hQz hf;have HS:=hQz hT;have HSO:=hQz hso;clear hf hT hso;intro w l hP hlen;have HP0:=hQz (And.intro hP (Lib.OthersKept.refl 5 (some S) w));have HL:=hQz hlen;clear hP hlen;go_in;go_wp2_with fail
 go_loopw [7] (fun i wr=>∃ k:Nat,k≤n∧i= .int .i64 (k:Int)∧Hid (PS w0 S wr (l++fl f k)∧Lib.OthersKept 5 (some S) w wr)) (fun i _=>n-(intOf i).toNat)
 case atStart=>exact ⟨0,Nat.zero_le _,rfl,by show PS _ _ _ _∧_;simpa [fl] using HP0.out⟩
 case round=>
  obtain ⟨k,hk,rfl,HP1⟩:=hrel;by_cases hlt:k<n
  · have hl1:(k:Int)<(n:Int):=by omega
    have hl0:(0:Int)≤(k:Int):=by omega
    obtain rfl:=HSO.out (by omega);have HSk:=hQz (HS.out k hlt);have HU:=hQz (fl_succ f k)
    have HLk:Hid ((l++fl f k).length+(f k).length≤140737488355328):=by
     have h1:=fl_pre f (show k+1≤n by omega);rw [HU.out] at h1;have h2:=HL.out;show _≤_;simp only [List.length_append] at h1 h2 ⊢;omega
    by_cases hz:0<k
    · have hz1:(0:Int)<(k:Int):=by omega
      have HE:Hid (f k=[59,32]++t k):=by show _=_;rw [HF.out];simp only [if_pos hz]
      rw [HE.out] at HLk HU;go_wp2_with fail;refine (q0h HP1.out.1 _ [59,32] rfl (by have:=HLk.out;simp only [List.length_append,List.length_cons,List.length_nil] at this ⊢;omega)).mono ?_;rintro e w2 ⟨rfl,hp,hk2⟩;have HP2:Hid (PS w0 S w2 (l++fl f k++[59,32])∧Lib.OthersKept 5 (some S) w w2):=⟨hp,HP1.out.2.trans hk2⟩;clear hp hk2;go_wp2_with fail;refine (HSk.out _ _ HP2.out.1 (by have:=HLk.out;simp only [List.length_append,List.length_cons,List.length_nil] at this ⊢;omega)).mono ?_;rintro e w3 ⟨rfl,hp,hk2⟩;have HP3:Hid (PS w0 S w3 (l++fl f (k+1))∧Lib.OthersKept 5 (some S) w w3):=⟨by rw [HU.out];simp only [← List.append_assoc];exact hp,HP2.out.2.trans hk2⟩;clear hp hk2;go_wp2_with fail;go_roundw
      case rel=>exact ⟨k+1,by omega,by go_num,HP3⟩
      case measure=>simp [intOf];omega
    · obtain rfl:k=0:=by omega
      have HE:Hid (f 0=t 0):=by show _=_;rw [HF.out];simp
      rw [HE.out] at HLk HU;go_wp2_with fail;refine (HSk.out _ _ HP1.out.1 (by have:=HLk.out;simp only [List.length_append,List.length_cons,List.length_nil] at this ⊢;omega)).mono ?_;rintro e w3 ⟨rfl,hp,hk2⟩;have HP3:Hid (PS w0 S w3 (l++fl f (0+1))∧Lib.OthersKept 5 (some S) w w3):=⟨by rw [HU.out];simp only [← List.append_assoc];exact hp,HP1.out.2.trans hk2⟩;clear hp hk2;go_wp2_with fail;go_roundw
      case rel=>exact ⟨0+1,by omega,by go_num,HP3⟩
      case measure=>simp [intOf];omega
  · have hl1:¬ (k:Int)<(n:Int):=by omega
    obtain rfl:k=n:=by omega
    go_wp2_with fail
    go_end0
    exact ⟨rfl,HP1.out⟩
theorem w_selfP (w0:World) (S g o:Nat):Say w0 S 76 #[.pointer (some ⟨S,0,none⟩),.pointer (some ⟨g,o,none⟩)] [46]:=by
 intro w l hP hlen;have HP0:=hQz (And.intro hP (Lib.OthersKept.refl 5 (some S) w));have HL:=hQz hlen;clear hP hlen;go_in;go_wp2_with fail;refine (q0h HP0.out.1 _ ([46]) rfl (by have:=HL.out;omega)).mono ?_;rintro e w1 ⟨rfl,hp,hk⟩;have HP1:Hid (PS w0 S w1 (l++([46]))∧Lib.OthersKept 5 (some S) w w1):=⟨hp,HP0.out.2.trans hk⟩;clear hp hk;go_wp2_with fail
 go_end0
 refine ⟨rfl,?_,HP1.out.2⟩;have hz:=HP1.out.1
 try simp only [List.append_assoc,List.cons_append,List.nil_append] at hz ⊢
 exact hz
theorem w_constant (w0:World) (S h:Nat) (A:NT) (g o:Nat) (hA:NAt w0 (h+1) A g o) (hs:A.value.text.size≤68719476736):Say w0 S 77 #[.pointer (some ⟨S,0,none⟩),.pointer (some ⟨g,o,none⟩)] (pCn A.value):=by
 have HQ:=hQz (fun u=>w_Quote A.value.text u hs);obtain ⟨aio,aic,ayo,ayc,ano,anc,ako,akc,HA⟩:=hA.open_;have HC3:=hQz HA.c3;have HC4:=hQz HA.c4;have HC5:=hQz HA.c5;clear HA hA hs;unfold pCn pQt;generalize A.value.kind=kd at *;generalize A.value.text=tx at *;generalize A.value.num=nu at *;by_cases k0:kd=0
 · subst k0;rw [if_pos rfl];intro w l hP hlen;have HP0:=hQz (And.intro hP (Lib.OthersKept.refl 5 (some S) w));have HL:=hQz hlen;clear hP hlen;go_in;have c30:=(HP0.out.1.low.cell (p:=⟨g,o+3,none⟩) (block_lt_of_cell HC3.out)).trans HC3.out;have c40:=(HP0.out.1.low.cell (p:=⟨g,o+4,none⟩) (block_lt_of_cell HC4.out)).trans HC4.out;have c50:=(HP0.out.1.low.cell (p:=⟨g,o+5,none⟩) (block_lt_of_cell HC5.out)).trans HC5.out;go_wp2_with fail;refine (q0h HP0.out.1 _ ([110,117,108,108]) rfl (by have:=HL.out;omega)).mono ?_;rintro e w1 ⟨rfl,hp,hk⟩;have HP1:Hid (PS w0 S w1 (l++([110,117,108,108]))∧Lib.OthersKept 5 (some S) w w1):=⟨hp,HP0.out.2.trans hk⟩;clear hp hk;clear c30 c40 c50;go_wp2_with fail
   go_end0
   refine ⟨rfl,?_,HP1.out.2⟩;have hz:=HP1.out.1
   try simp only [List.append_assoc,List.cons_append,List.nil_append] at hz ⊢
   exact hz
 have b0:(kd==0)=false:=by rw [bqZ];exact k0
 by_cases k1:kd=1
 · subst k1;rw [if_neg (by decide),if_pos rfl];intro w l hP hlen;have HP0:=hQz (And.intro hP (Lib.OthersKept.refl 5 (some S) w));have HL:=hQz hlen;clear hP hlen;go_in;have c30:=(HP0.out.1.low.cell (p:=⟨g,o+3,none⟩) (block_lt_of_cell HC3.out)).trans HC3.out;have c40:=(HP0.out.1.low.cell (p:=⟨g,o+4,none⟩) (block_lt_of_cell HC4.out)).trans HC4.out;have c50:=(HP0.out.1.low.cell (p:=⟨g,o+5,none⟩) (block_lt_of_cell HC5.out)).trans HC5.out;go_wp2_with fail;refine (q0h HP0.out.1 _ ([102,97,108,115,101]) rfl (by have:=HL.out;omega)).mono ?_;rintro e w1 ⟨rfl,hp,hk⟩;have HP1:Hid (PS w0 S w1 (l++([102,97,108,115,101]))∧Lib.OthersKept 5 (some S) w w1):=⟨hp,HP0.out.2.trans hk⟩;clear hp hk;clear c30 c40 c50;go_wp2_with fail
   go_end0
   refine ⟨rfl,?_,HP1.out.2⟩;have hz:=HP1.out.1
   try simp only [List.append_assoc,List.cons_append,List.nil_append] at hz ⊢
   exact hz
 have b1:(kd==1)=false:=by rw [bqZ];exact k1
 by_cases k2:kd=2
 · subst k2;rw [if_neg (by decide),if_neg (by decide),if_pos rfl];intro w l hP hlen;have HP0:=hQz (And.intro hP (Lib.OthersKept.refl 5 (some S) w));have HL:=hQz hlen;clear hP hlen;go_in;have c30:=(HP0.out.1.low.cell (p:=⟨g,o+3,none⟩) (block_lt_of_cell HC3.out)).trans HC3.out;have c40:=(HP0.out.1.low.cell (p:=⟨g,o+4,none⟩) (block_lt_of_cell HC4.out)).trans HC4.out;have c50:=(HP0.out.1.low.cell (p:=⟨g,o+5,none⟩) (block_lt_of_cell HC5.out)).trans HC5.out;go_wp2_with fail;refine (q0h HP0.out.1 _ ([116,114,117,101]) rfl (by have:=HL.out;omega)).mono ?_;rintro e w1 ⟨rfl,hp,hk⟩;have HP1:Hid (PS w0 S w1 (l++([116,114,117,101]))∧Lib.OthersKept 5 (some S) w w1):=⟨hp,HP0.out.2.trans hk⟩;clear hp hk;clear c30 c40 c50;go_wp2_with fail
   go_end0
   refine ⟨rfl,?_,HP1.out.2⟩;have hz:=HP1.out.1
   try simp only [List.append_assoc,List.cons_append,List.nil_append] at hz ⊢
   exact hz
 have b2:(kd==2)=false:=by rw [bqZ];exact k2
 by_cases k3:kd=3
 · subst k3;rw [if_neg (by decide),if_neg (by decide),if_neg (by decide),if_pos rfl];intro w l hP hlen;have HP0:=hQz (And.intro hP (Lib.OthersKept.refl 5 (some S) w));have HL:=hQz hlen;clear hP hlen;go_in;have c30:=(HP0.out.1.low.cell (p:=⟨g,o+3,none⟩) (block_lt_of_cell HC3.out)).trans HC3.out;have c40:=(HP0.out.1.low.cell (p:=⟨g,o+4,none⟩) (block_lt_of_cell HC4.out)).trans HC4.out;have c50:=(HP0.out.1.low.cell (p:=⟨g,o+5,none⟩) (block_lt_of_cell HC5.out)).trans HC5.out;go_wp2_with fail;refine (q0h HP0.out.1 _ (nu.data.toList) rfl (by have:=HL.out;omega)).mono ?_;rintro e w1 ⟨rfl,hp,hk⟩;have HP1:Hid (PS w0 S w1 (l++(nu.data.toList))∧Lib.OthersKept 5 (some S) w w1):=⟨hp,HP0.out.2.trans hk⟩;clear hp hk;clear c30 c40 c50;go_wp2_with fail
   go_end0
   refine ⟨rfl,?_,HP1.out.2⟩;have hz:=HP1.out.1
   try simp only [List.append_assoc,List.cons_append,List.nil_append] at hz ⊢
   exact hz
 have b3:(kd==3)=false:=by rw [bqZ];exact k3
 rw [if_neg k0,if_neg k1,if_neg k2,if_neg k3];generalize hy:(34::(qb (q18 tx.data.toList)++[34]))=Y at *;clear k0 k1 k2 k3 hy;intro w l hP hlen;have HP0:=hQz (And.intro hP (Lib.OthersKept.refl 5 (some S) w));have HL:=hQz hlen;clear hP hlen;go_in;have c30:=(HP0.out.1.low.cell (p:=⟨g,o+3,none⟩) (block_lt_of_cell HC3.out)).trans HC3.out;have c40:=(HP0.out.1.low.cell (p:=⟨g,o+4,none⟩) (block_lt_of_cell HC4.out)).trans HC4.out;have c50:=(HP0.out.1.low.cell (p:=⟨g,o+5,none⟩) (block_lt_of_cell HC5.out)).trans HC5.out;go_wp2_with fail;refine (HQ.out _).mono ?_;rintro e w1 ⟨rfl,hb1⟩;have HP1:Hid (PS w0 S w1 l∧Lib.OthersKept 5 (some S) w w1):=⟨HP0.out.1.keep hb1,ok_low hb1⟩;clear hb1 c30 c40 c50;go_wp2_with fail;refine (q0h HP1.out.1 _ (Y) rfl (by have:=HL.out;omega)).mono ?_;rintro e w2 ⟨rfl,hp,hk⟩;have HP2:Hid (PS w0 S w2 (l++(Y))∧Lib.OthersKept 5 (some S) w w2):=⟨hp,HP1.out.2.trans hk⟩;clear hp hk;go_wp2_with fail
 go_end0
 refine ⟨rfl,?_,HP2.out.2⟩;have hz:=HP2.out.1
 try simp only [List.append_assoc,List.cons_append,List.nil_append] at hz ⊢
 exact hz
theorem w_list (w0:World) (S g o b off N kc:Nat) (ko:Option Addr) (t:Nat→List UInt8) (hko:0<N→ko=some ⟨b,off,none⟩) (c9:w0.cell? ⟨g,o+9,none⟩=some (.slice ko N kc)) (hcap:N≤kc) (hbig:N≤140737488355328) (hT:∀ i,i<N→Say w0 S 26 #[.pointer (some ⟨S,0,none⟩),.pointer (some ⟨b,off+i*10,none⟩)] (t i)):Say w0 S 79 #[.pointer (some ⟨S,0,none⟩),.pointer (some ⟨g,o,none⟩)] (sList t N):=by
 have HR:=hQz (w_row w0 S b off N kc ko t hko hcap hbig hT);have HC9:=hQz c9;clear hT c9 hko;unfold sList;intro w l hP hlen;have HP0:=hQz (And.intro hP (Lib.OthersKept.refl 5 (some S) w));have HL:=hQz hlen;clear hP hlen;go_in;have c90:=(HP0.out.1.low.cell (p:=⟨g,o+9,none⟩) (block_lt_of_cell HC9.out)).trans HC9.out;go_wp2_with fail;refine (q0h HP0.out.1 _ ([91]) rfl (by have:=HL.out;(try simp only [List.length_append,List.length_cons,List.length_nil] at this ⊢);omega)).mono ?_;rintro e w1 ⟨rfl,hp,hk⟩;have HP1:Hid (PS w0 S w1 (l++([91]))∧Lib.OthersKept 5 (some S) w w1):=⟨hp,HP0.out.2.trans hk⟩;clear hp hk;clear c90;have c91:=(HP1.out.1.low.cell (p:=⟨g,o+9,none⟩) (block_lt_of_cell HC9.out)).trans HC9.out;go_wp2_with fail;refine (HR.out _ _ HP1.out.1 (by have:=HL.out;(try simp only [List.length_append,List.length_cons,List.length_nil] at this ⊢);omega)).mono ?_;rintro e w2 ⟨rfl,hp,hk⟩;have HP2:Hid (PS w0 S w2 (l++([91])++(pRw t N))∧Lib.OthersKept 5 (some S) w w2):=⟨hp,HP1.out.2.trans hk⟩;clear hp hk;clear c91;have c92:=(HP2.out.1.low.cell (p:=⟨g,o+9,none⟩) (block_lt_of_cell HC9.out)).trans HC9.out;go_wp2_with fail;refine (q0h HP2.out.1 _ ([93]) rfl (by have:=HL.out;(try simp only [List.length_append,List.length_cons,List.length_nil] at this ⊢);omega)).mono ?_;rintro e w3 ⟨rfl,hp,hk⟩;have HP3:Hid (PS w0 S w3 (l++([91])++(pRw t N)++([93]))∧Lib.OthersKept 5 (some S) w w3):=⟨hp,HP2.out.2.trans hk⟩;clear hp hk;clear c92;go_wp2_with fail
 go_end0
 refine ⟨rfl,?_,HP3.out.2⟩;have hz:=HP3.out.1
 try simp only [List.append_assoc,List.cons_append,List.nil_append] at hz ⊢
 exact hz
theorem w_variable (w0:World) (S g o:Nat) (op:Int) (c0:w0.cell? ⟨g,o,none⟩=some (.int .i64 op)) (tx:ByteArray) (c2:w0.cell? ⟨g,o+2,none⟩=some (.string tx)):Say w0 S 81 #[.pointer (some ⟨S,0,none⟩),.pointer (some ⟨g,o,none⟩)] (sVar op tx):=by
 have HC0:=hQz c0;have HC2:=hQz c2;clear c0 c2;unfold sVar;by_cases h35:op=35
 · subst h35;rw [if_pos rfl];intro w l hP hlen;have HP0:=hQz (And.intro hP (Lib.OthersKept.refl 5 (some S) w));have HL:=hQz hlen;clear hP hlen;go_in;have c00:=(HP0.out.1.low.cell (p:=⟨g,o,none⟩) (block_lt_of_cell HC0.out)).trans HC0.out;have c20:=(HP0.out.1.low.cell (p:=⟨g,o+2,none⟩) (block_lt_of_cell HC2.out)).trans HC2.out;go_wp2_with fail;refine (q0h HP0.out.1 _ ([98,114,101,97,107,32]) rfl (by have:=HL.out;(try simp only [List.length_append,List.length_cons,List.length_nil] at this ⊢);omega)).mono ?_;rintro e w1 ⟨rfl,hp,hk⟩;have HP1:Hid (PS w0 S w1 (l++([98,114,101,97,107,32]))∧Lib.OthersKept 5 (some S) w w1):=⟨hp,HP0.out.2.trans hk⟩;clear hp hk;clear c00 c20;have c01:=(HP1.out.1.low.cell (p:=⟨g,o,none⟩) (block_lt_of_cell HC0.out)).trans HC0.out;have c21:=(HP1.out.1.low.cell (p:=⟨g,o+2,none⟩) (block_lt_of_cell HC2.out)).trans HC2.out;go_wp2_with fail;refine (w_put2 HP1.out.1 _ _ ([36]++tx.data.toList) rfl (by have:=HL.out;(try simp only [List.length_append,List.length_cons,List.length_nil] at this ⊢);omega)).mono ?_;rintro e w2 ⟨rfl,hp,hk⟩;have HP2:Hid (PS w0 S w2 (l++([98,114,101,97,107,32])++([36]++tx.data.toList))∧Lib.OthersKept 5 (some S) w w2):=⟨hp,HP1.out.2.trans hk⟩;clear hp hk;clear c01 c21;go_wp2_with fail
   go_end0
   refine ⟨rfl,?_,HP2.out.2⟩;have hz:=HP2.out.1
   try simp only [List.append_assoc,List.cons_append,List.nil_append] at hz ⊢
   exact hz
 · have b35:(op==35)=false:=by rw [bqZ];exact h35
   rw [if_neg h35,List.nil_append];intro w l hP hlen;have HP0:=hQz (And.intro hP (Lib.OthersKept.refl 5 (some S) w));have HL:=hQz hlen;clear hP hlen;go_in;have c00:=(HP0.out.1.low.cell (p:=⟨g,o,none⟩) (block_lt_of_cell HC0.out)).trans HC0.out;have c20:=(HP0.out.1.low.cell (p:=⟨g,o+2,none⟩) (block_lt_of_cell HC2.out)).trans HC2.out;go_wp2_with fail;refine (w_put2 HP0.out.1 _ _ ([36]++tx.data.toList) rfl (by have:=HL.out;(try simp only [List.length_append,List.length_cons,List.length_nil] at this ⊢);omega)).mono ?_;rintro e w1 ⟨rfl,hp,hk⟩;have HP1:Hid (PS w0 S w1 (l++([36]++tx.data.toList))∧Lib.OthersKept 5 (some S) w w1):=⟨hp,HP0.out.2.trans hk⟩;clear hp hk;clear c00 c20;go_wp2_with fail
   go_end0
   refine ⟨rfl,?_,HP1.out.2⟩;have hz:=HP1.out.1
   try simp only [List.append_assoc,List.cons_append,List.nil_append] at hz ⊢
   exact hz
theorem w_slice (w0:World) (S h g o b off N kc:Nat) (K:Nat→NT) (t:Nat→List UInt8) (c9:w0.cell? ⟨g,o+9,none⟩=some (.slice (some ⟨b,off,none⟩) N kc)) (hcap:N≤kc) (hbig:N≤140737488355328) (hN:3≤N) (hB:Say w0 S 141 #[.pointer (some ⟨S,0,none⟩),.pointer (some ⟨b,off+0*10,none⟩)] (pBs (t 0) (K 0))) (hE1:Say w0 S 143 #[.pointer (some ⟨S,0,none⟩),.pointer (some ⟨b,off+1*10,none⟩)] (pEn (t 1) (K 1))) (hE2:Say w0 S 143 #[.pointer (some ⟨S,0,none⟩),.pointer (some ⟨b,off+2*10,none⟩)] (pEn (t 2) (K 2))):Say w0 S 83 #[.pointer (some ⟨S,0,none⟩),.pointer (some ⟨g,o,none⟩)] (sSlice K t):=by
 have q0:((0:Int)<(N:Int)):=by omega
 have q1:((1:Int)<(N:Int)):=by omega
 have q2:((2:Int)<(N:Int)):=by omega
 have H0:=hQz hB;have H1:=hQz hE1;have H2:=hQz hE2;have HC9:=hQz c9;clear hB hE1 hE2 c9;unfold sSlice;intro w l hP hlen;have HP0:=hQz (And.intro hP (Lib.OthersKept.refl 5 (some S) w));have HL:=hQz hlen;clear hP hlen;go_in;have c90:=(HP0.out.1.low.cell (p:=⟨g,o+9,none⟩) (block_lt_of_cell HC9.out)).trans HC9.out;go_wp2_with fail;refine (H0.out _ _ HP0.out.1 (by have:=HL.out;(try simp only [List.length_append,List.length_cons,List.length_nil] at this ⊢);omega)).mono ?_;rintro e w1 ⟨rfl,hp,hk⟩;have HP1:Hid (PS w0 S w1 (l++(pBs (t 0) (K 0)))∧Lib.OthersKept 5 (some S) w w1):=⟨hp,HP0.out.2.trans hk⟩;clear hp hk;clear c90;have c91:=(HP1.out.1.low.cell (p:=⟨g,o+9,none⟩) (block_lt_of_cell HC9.out)).trans HC9.out;go_wp2_with fail;refine (q0h HP1.out.1 _ ([91]) rfl (by have:=HL.out;(try simp only [List.length_append,List.length_cons,List.length_nil] at this ⊢);omega)).mono ?_;rintro e w2 ⟨rfl,hp,hk⟩;have HP2:Hid (PS w0 S w2 (l++(pBs (t 0) (K 0))++([91]))∧Lib.OthersKept 5 (some S) w w2):=⟨hp,HP1.out.2.trans hk⟩;clear hp hk;clear c91;have c92:=(HP2.out.1.low.cell (p:=⟨g,o+9,none⟩) (block_lt_of_cell HC9.out)).trans HC9.out;go_wp2_with fail;refine (H1.out _ _ HP2.out.1 (by have:=HL.out;(try simp only [List.length_append,List.length_cons,List.length_nil] at this ⊢);omega)).mono ?_;rintro e w3 ⟨rfl,hp,hk⟩;have HP3:Hid (PS w0 S w3 (l++(pBs (t 0) (K 0))++([91])++(pEn (t 1) (K 1)))∧Lib.OthersKept 5 (some S) w w3):=⟨hp,HP2.out.2.trans hk⟩;clear hp hk;clear c92;have c93:=(HP3.out.1.low.cell (p:=⟨g,o+9,none⟩) (block_lt_of_cell HC9.out)).trans HC9.out;go_wp2_with fail;refine (q0h HP3.out.1 _ ([58]) rfl (by have:=HL.out;(try simp only [List.length_append,List.length_cons,List.length_nil] at this ⊢);omega)).mono ?_;rintro e w4 ⟨rfl,hp,hk⟩;have HP4:Hid (PS w0 S w4 (l++(pBs (t 0) (K 0))++([91])++(pEn (t 1) (K 1))++([58]))∧Lib.OthersKept 5 (some S) w w4):=⟨hp,HP3.out.2.trans hk⟩;clear hp hk;clear c93;have c94:=(HP4.out.1.low.cell (p:=⟨g,o+9,none⟩) (block_lt_of_cell HC9.out)).trans HC9.out;go_wp2_with fail;refine (H2.out _ _ HP4.out.1 (by have:=HL.out;(try simp only [List.length_append,List.length_cons,List.length_nil] at this ⊢);omega)).mono ?_;rintro e w5 ⟨rfl,hp,hk⟩;have HP5:Hid (PS w0 S w5 (l++(pBs (t 0) (K 0))++([91])++(pEn (t 1) (K 1))++([58])++(pEn (t 2) (K 2)))∧Lib.OthersKept 5 (some S) w w5):=⟨hp,HP4.out.2.trans hk⟩
 clear hp hk;clear c94;have c95:=(HP5.out.1.low.cell (p:=⟨g,o+9,none⟩) (block_lt_of_cell HC9.out)).trans HC9.out;go_wp2_with fail;refine (q0h HP5.out.1 _ ([93]) rfl (by have:=HL.out;(try simp only [List.length_append,List.length_cons,List.length_nil] at this ⊢);omega)).mono ?_;rintro e w6 ⟨rfl,hp,hk⟩;have HP6:Hid (PS w0 S w6 (l++(pBs (t 0) (K 0))++([91])++(pEn (t 1) (K 1))++([58])++(pEn (t 2) (K 2))++([93]))∧Lib.OthersKept 5 (some S) w w6):=⟨hp,HP5.out.2.trans hk⟩;clear hp hk;clear c95;go_wp2_with fail
 go_end0
 refine ⟨rfl,?_,HP6.out.2⟩;have hz:=HP6.out.1
 try simp only [List.append_assoc,List.cons_append,List.nil_append] at hz ⊢
 exact hz
theorem w_each (w0:World) (S h g o b off N kc:Nat) (K:Nat→NT) (t:Nat→List UInt8) (c9:w0.cell? ⟨g,o+9,none⟩=some (.slice (some ⟨b,off,none⟩) N kc)) (hcap:N≤kc) (hbig:N≤140737488355328) (hN:1≤N) (hT:∀ i,i<N→Say w0 S 26 #[.pointer (some ⟨S,0,none⟩),.pointer (some ⟨b,off+i*10,none⟩)] (t i)) (hA:∀ i,i<N→NAt w0 (h+1) (K i) b (off+i*10)∧0≤(K i).op∧(K i).op<44):Say w0 S 84 #[.pointer (some ⟨S,0,none⟩),.pointer (some ⟨g,o,none⟩)] (sEach K t):=by
 have q0:((0:Int)<(N:Int)):=by omega
 have HBs:Hid (∀ i,i<N→Say w0 S 141 #[.pointer (some ⟨S,0,none⟩),.pointer (some ⟨b,off+i*10,none⟩)] (pBs (t i) (K i))):=fun i hi=>w_base w0 S h (K i) b (off+i*10) (t i) (hA i hi).1 (hA i hi).2 (hT i hi);have HBs0:=hQz (HBs.out 0 (by omega));have HC9:=hQz c9;clear hT hA c9 HBs;unfold sEach;intro w l hP hlen;have HP0:=hQz (And.intro hP (Lib.OthersKept.refl 5 (some S) w));have HL:=hQz hlen;clear hP hlen;go_in;have c90:=(HP0.out.1.low.cell (p:=⟨g,o+9,none⟩) (block_lt_of_cell HC9.out)).trans HC9.out;go_wp2_with fail;refine (HBs0.out _ _ HP0.out.1 (by have:=HL.out;(try simp only [List.length_append,List.length_cons,List.length_nil] at this ⊢);omega)).mono ?_;rintro e w1 ⟨rfl,hp,hk⟩;have HP1:Hid (PS w0 S w1 (l++(pBs (t 0) (K 0)))∧Lib.OthersKept 5 (some S) w w1):=⟨hp,HP0.out.2.trans hk⟩;clear hp hk;clear c90;have c91:=(HP1.out.1.low.cell (p:=⟨g,o+9,none⟩) (block_lt_of_cell HC9.out)).trans HC9.out;go_wp2_with fail;refine (q0h HP1.out.1 _ ([91,93]) rfl (by have:=HL.out;(try simp only [List.length_append,List.length_cons,List.length_nil] at this ⊢);omega)).mono ?_;rintro e w2 ⟨rfl,hp,hk⟩;have HP2:Hid (PS w0 S w2 (l++(pBs (t 0) (K 0))++([91,93]))∧Lib.OthersKept 5 (some S) w w2):=⟨hp,HP1.out.2.trans hk⟩;clear hp hk;clear c91;go_wp2_with fail
 go_end0
 refine ⟨rfl,?_,HP2.out.2⟩;have hz:=HP2.out.1
 try simp only [List.append_assoc,List.cons_append,List.nil_append] at hz ⊢
 exact hz
end Go.Proofs.YtdjleoglphgdgaaGreatDoor
