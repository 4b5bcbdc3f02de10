import Derived.Test.YtdjleoglphgdgaaGreatDoorM9
import Derived.Deep.QuietTactic
import Derived.BigQuiet
import Derived.Test.YtdjleoglphgdgaaGreatDoorM16
import Derived.Test.YtdjleoglphgdgaaGreatDoorM2
set_option linter.unusedVariables false
set_option linter.unusedSimpArgs false
namespace Go.Proofs.YtdjleoglphgdgaaGreatDoor
open Go.RowKit
structure LetSt (w wr:World) (l:List UInt8):Prop where
 row:∃ (tail:List Value) (fr:Nat × Nat),wr.heap[w.heap.size]? =some (.cells (Lib.byteCells l++tail).toArray 5 fr)∧l.length≤fr.1
 below:Below w.heap.size w wr
theorem bc_len (l:List UInt8):(Lib.byteCells l).length=l.length:=by simp [Lib.byteCells]
theorem LetSt.cell {w wr:World} {l:List UInt8} (h:LetSt w wr l) (j:Nat) (hj:j<l.length):wr.cell? ⟨w.heap.size,j,none⟩=some (.int .u8 ((l.getD j 0).toNat:Int))∧wr.frozen? ⟨w.heap.size,j,none⟩=false:=by
 obtain ⟨tail,fr,h1,h2⟩:=h.row;constructor
 · rw [cell_of_row _ _ _ _ _ _ h1,List.getElem?_toArray,List.getElem?_append_left (by rw [bc_len];exact hj)];simp [Lib.byteCells,hj]
 · simp only [World.frozen?,h1];simp;omega
theorem LetSt.set {w wr:World} {l:List UInt8} (h:LetSt w wr l) (j:Nat) (c:UInt8) (hj:j<l.length):LetSt w (wr.setCell ⟨w.heap.size,j,none⟩ (.int .u8 (c.toNat:Int))) (l.set j c):=by
 obtain ⟨tail,fr,h1,h2⟩:=h.row;refine ⟨⟨tail,fr,?_,by simpa using h2⟩,h.below.setCell (Nat.le_refl _) _⟩;rw [setCell_eq_setRow _ _ _ _ _ _ _ h1,setRow_heap _ _ _ _ _ _ h1]
 congr 2
 rw [List.setIfInBounds_toArray,List.set_append_left _ _ (by rw [bc_len];exact hj)];simp [Lib.byteCells,List.map_set]
def turnB (a b:Nat) (c:UInt8):UInt8:=if a≤c.toNat∧c.toNat≤b then UInt8.ofNat (c.toNat ^^^ 32) else c
def low (s:ByteArray):ByteArray:=⟨(s.data.toList.map (turnB 65 90)).toArray⟩
end Go.Proofs.YtdjleoglphgdgaaGreatDoor
set_option linter.unusedVariables false
set_option linter.unusedSimpArgs false
namespace Go.Proofs.YtdjleoglphgdgaaGreatDoor
open Go.RowKit
set_option maxRecDepth 100000
set_option maxHeartbeats 12800000
theorem InH.open {W:World} {h:Nat} {T:VT} {v:Value} (hI:InH W (h+1) T v):∃ (io:Option Addr) (icap:Nat) (ko:Option Addr) (kcap:Nat),
 v= .agg #[.int .i64 T.kind,.string T.num,.string T.text,.slice io T.items.length icap,.slice ko T.keys.length kcap]∧
 T.num.size≤140737488355328∧T.text.size≤140737488355328∧T.items.length≤140737488355328∧T.keys.length≤140737488355328∧T.items.length≤icap∧T.keys.length≤kcap∧
 (∀ k∈T.keys,k.size≤140737488355328)∧KIn W ko T.keys∧IIn W h io T.items:=by
 obtain ⟨io,icap,ko,kcap,e,a1,a2,a3,a4,a5,a6,a7,hk,hi⟩:=hI;exact ⟨io,icap,ko,kcap,e,a1,a2,a3,a4,a5,a6,a7,hk,⟨hi⟩⟩
def oK (keys:List ByteArray) (k:Nat):Bool:=(List.range k).all fun i=>okB (keys.getD i .empty).data.toList
def rA (keys:List ByteArray) (i:Nat):Bool:=Op.bytesLess (keys.getD (i-1) .empty).toList (keys.getD i .empty).toList
def rK (keys:List ByteArray) (k:Nat):Bool:=(List.range k).all fun i=>i==0||rA keys i
theorem oK_up (keys:List ByteArray) (k:Nat):oK keys (k+1)=(oK keys k&&okB (keys.getD k .empty).data.toList):=by simp [oK,List.range_succ]
theorem rK_up (keys:List ByteArray) (k:Nat):rK keys (k+1)=(rK keys k&&(k==0||rA keys k)):=by simp [rK,List.range_succ]
theorem all_false_of {f:Nat→Bool} {k N:Nat} (h:k<N) (hf:f k=false):(List.range N).all f=false:=by
 rw [List.all_eq_false];exact ⟨k,List.mem_range.2 h,by simp [hf]⟩
theorem oK_no {keys:List ByteArray} {k N:Nat} (h:k<N) (hf:okB (keys.getD k .empty).data.toList=false):oK keys N=false:=all_false_of h hf
theorem rK_no {keys:List ByteArray} {k N:Nat} (h:k<N) (h0:k≠0) (hf:rA keys k=false):rK keys N=false:=all_false_of (f:=fun i=>i==0||rA keys i) h (by simp [hf,h0])
theorem key_size {keys:List ByteArray} (h:∀ k∈keys,k.size≤140737488355328) {i:Nat} (hi:i<keys.length):(keys.getD i .empty).size≤140737488355328:=by
 apply h;rw [List.getD_eq_getElem?_getD,List.getElem?_eq_getElem hi];exact List.getElem_mem hi
theorem w_allValid (ko:Option Addr) (K kcap:Nat) (keys:List ByteArray) (w:World) (hk:KIn w ko keys) (hK:keys.length=K) (hcap:K≤kcap) (hK2:K≤140737488355328) (hs:∀ k∈keys,k.size≤140737488355328):
 Calls Tryz.prog 180 #[.slice ko K kcap] w fun e w'=>e= .returned (.bool (oK keys K))∧Below w.heap.size w w':=by
 have HK:=hQz hk;have HKK:=hQz hK;have HSz:=hQz (fun i (hi:i<keys.length)=>key_size hs hi);clear hk hK hs;go_in;go_wp2_with fail
 go_loopw [7] (fun i wr=>∃ k:Nat,k≤K∧i= .int .i64 (k:Int)∧Hid (Below w.heap.size w wr)∧Hid (oK keys k=true)) (fun i _=>K-(intOf i).toNat)
 case atStart=>exact ⟨0,Nat.zero_le _,rfl,Below.refl _ _,rfl⟩
 case round=>
  obtain ⟨k,hk,rfl,HB,HQ⟩:=hrel;by_cases hlt:k<K
  · have hl1:(k:Int)<(K:Int):=by omega
    have hkl:k<keys.length:=by rw [HKK.out];exact hlt
    obtain ⟨b,off,hko,hbl,hrow⟩:=(HK.out.keep HB.out).row (by omega);subst hko;have c0:=hrow k hkl;have hsz:=HSz.out k hkl;have HUp:=hQz (oK_up keys k);have HNo:=hQz (fun h=>oK_no (keys:=keys) hlt h);generalize keys.getD k ByteArray.empty=s at c0 hsz HUp HNo;have HV:=hQz (q1I s wr (by omega));clear hrow hbl hkl
    cases hok:okB s.data.toList with
    | true=>
     rw [hok] at HV HUp;have HN:Hid (oK keys (k+1)=true):=by rw [HUp.out,HQ.out];rfl
     clear hok;go_wp2_with fail;refine HV.out.mono ?_;rintro e w2 ⟨rfl,hb2⟩;have HB2:=hQz (HB.out.trans (hb2.mono HB.out.size));clear hb2;go_wp2_with fail;go_roundw
     case rel=>exact ⟨k+1,hlt,by go_num,HB2,HN⟩
     case measure=>simp [intOf];omega
    | false=>
     have HF:=hQz (HNo.out hok);rw [hok] at HV;clear hok;go_wp2_with fail;refine HV.out.mono ?_;rintro e w2 ⟨rfl,hb2⟩;have HB2:=hQz (HB.out.trans (hb2.mono HB.out.size));clear hb2;go_wp2_with fail;go_ret;exact ⟨by rw [HF.out];rfl,HB2.out⟩
  · have hl1:¬ (k:Int)<(K:Int):=by omega
    have HF:Hid (oK keys K=true):=by
     have e:k=K:=by omega
     rw [← e];exact HQ
    go_wp2_with fail;go_ret;exact ⟨by rw [HF.out];rfl,HB.out⟩
theorem w_rising (ko:Option Addr) (K kcap:Nat) (keys:List ByteArray) (w:World) (hk:KIn w ko keys) (hK:keys.length=K) (hcap:K≤kcap) (hK2:K≤140737488355328):
 Calls Tryz.prog 179 #[.slice ko K kcap] w fun e w'=>e= .returned (.bool (rK keys K))∧Below w.heap.size w w':=by
 have HK:=hQz hk;have HKK:=hQz hK;clear hk hK;go_in;go_wp2_with fail
 go_loopw [3] (fun i wr=>∃ j:Nat,(j+1≤K∨K=0∧j=0)∧i= .int .i64 ((j:Int)+1)∧Hid (Below w.heap.size w wr)∧Hid (rK keys (j+1)=true)) (fun i _=>K-(intOf i).toNat)
 case atStart=>exact ⟨0,by omega,rfl,Below.refl _ _,rfl⟩
 case round=>
  obtain ⟨j,hk,rfl,HB,HQ⟩:=hrel;by_cases hlt:j+1<K
  · have hl1:(j:Int)+1<(K:Int):=by omega
    have hl2:(j:Int)<(K:Int):=by omega
    have hj0:(j:Int)+1-1=(j:Int):=by omega
    have z0:(0:Int)≤(j:Int):=by omega
    have z1:(0:Int)≤(j:Int)+1:=by omega
    have wj:IntKind.i64.wrap (j:Int)=(j:Int):=by rw [IntKind.wrap_i64];omega
    have hjw:IntKind.i64.wrap ((j:Int)+1-1)=(j:Int):=by rw [IntKind.wrap_i64];omega
    obtain ⟨b,off,hko,hbl,hrow⟩:=(HK.out.keep HB.out).row (by rw [HKK.out];omega);subst hko;have c0:=hrow j (by rw [HKK.out];omega);have c1:=hrow (j+1) (by rw [HKK.out];omega);have HUp:=hQz (rK_up keys (j+1));have HNo:=hQz (fun h=>rK_no (keys:=keys) (k:=j+1) hlt (by omega) h);unfold rA at HUp HNo;rw [Nat.add_sub_cancel] at HUp HNo;generalize keys.getD j ByteArray.empty=s at c0 HUp HNo;generalize keys.getD (j+1) ByteArray.empty=t at c1 HUp HNo;clear hrow hbl
    cases hlss:Op.bytesLess s.toList t.toList with
    | true=>
     rw [hlss] at HUp;have HN:Hid (rK keys (j+1+1)=true):=by show _=_;rw [HUp.out,HQ.out];simp
     go_wp2_with fail;go_quiet (fail);have HB2:Hid (Below w.heap.size w (wr.drewN nq)):=⟨HB.out.os,HB.out.tape,HB.out.output,HB.out.size,HB.out.block⟩;go_wp2_with fail;go_roundw
     case rel=>exact ⟨j+1,by omega,by go_num,HB2,HN⟩
     case measure=>simp [intOf];omega
    | false=>
     have HF:=hQz (HNo.out hlss);go_wp2_with fail;go_quiet (fail);have HB2:Hid (Below w.heap.size w (wr.drewN nq)):=⟨HB.out.os,HB.out.tape,HB.out.output,HB.out.size,HB.out.block⟩;go_wp2_with fail;go_ret;exact ⟨by rw [HF.out];rfl,HB2.out⟩
  · have hl1:¬ (j:Int)+1<(K:Int):=by omega
    have HF:Hid (rK keys K=true):=by
     rcases hk with h|⟨h,_⟩
     · have e:j+1=K:=by omega
       rw [← e];exact HQ
     · rw [h];rfl
    go_wp2_with fail;go_ret;exact ⟨by rw [HF.out];rfl,HB.out⟩
def bareB (nm tx:ByteArray) (N K:Nat):Bool:=nm.toList.isEmpty&&tx.toList.isEmpty&&decide (N=0)&&decide (K=0)
theorem w_bare (kd:Int) (nm tx:ByteArray) (io:Option Addr) (N icap:Nat) (ko:Option Addr) (K kcap:Nat) (w:World):
 Calls Tryz.prog 181 #[.agg #[.int .i64 kd,.string nm,.string tx,.slice io N icap,.slice ko K kcap]] w fun e w'=>e= .returned (.bool (bareB nm tx N K))∧Below w.heap.size w w':=by
 have HX:=hQz (vbx_new w (.int .i64 kd) (.string nm) (.string tx) (.slice io N icap) (.slice ko K kcap));unfold bareB
 cases h1:nm.toList.isEmpty with
 | false=>
  go_in;go_wp2_with fail;go_ret;exact ⟨rfl,HX.out.below⟩
 | true=>
  cases h2:tx.toList.isEmpty with
  | false=>
   go_in;go_wp2_with fail;go_ret;exact ⟨rfl,HX.out.below⟩
  | true=>
   by_cases h3:N=0
   · have h31:((N:Int)==0)=true:=by rw [beq_iff_eq];omega
     have HD:Hid (decide (N=0)=true):=decide_eq_true h3;by_cases h4:K=0
     · have h41:((K:Int)==0)=true:=by rw [beq_iff_eq];omega
       have HD2:Hid (decide (K=0)=true):=decide_eq_true h4;clear h3 h4;go_in;go_wp2_with fail;go_ret;exact ⟨by rw [HD.out,HD2.out];rfl,HX.out.below⟩
     · have h41:((K:Int)==0)=false:=by rw [bqZ];omega
       have HD2:Hid (decide (K=0)=false):=decide_eq_false h4;clear h3 h4;go_in;go_wp2_with fail;go_ret;exact ⟨by rw [HD.out,HD2.out];rfl,HX.out.below⟩
   · have h31:((N:Int)==0)=false:=by rw [bqZ];omega
     have HD:Hid (decide (N=0)=false):=decide_eq_false h3;clear h3;go_in;go_wp2_with fail;go_ret;exact ⟨by rw [HD.out];rfl,HX.out.below⟩
def q0L (k:Int) (nm tx:ByteArray) (N K:Nat) (A RO:Bool):Bool:=
 if k=0∨k=1∨k=2 then bareB nm tx N K
 else if k=3 then Pl.formed nm.data.toList&&bareB .empty tx N K
 else if k=4 then okB tx.data.toList&&bareB nm .empty N K
 else if k=5 then A&&bareB nm tx 0 K
 else if k=6 then decide (K=N)&&RO&&A&&bareB nm tx 0 0
 else false
def q1L:Nat→VT→Bool
 | 0,_=>false
 | h+1,T=>q0L T.kind T.num T.text T.items.length T.keys.length (T.items.all (q1L h)) (rK T.keys T.keys.length&&oK T.keys T.keys.length)
theorem all_up {ts:List VT} {f:VT→Bool} {k:Nat} (hk:k<ts.length):(ts.take (k+1)).all f=((ts.take k).all f&&f ts[k]):=by
 rw [List.take_succ_eq_append_getElem hk,List.all_append];simp
theorem all_no {ts:List VT} {f:VT→Bool} {k:Nat} (hk:k<ts.length) (h:f ts[k]=false):ts.all f=false:=by
 rw [List.all_eq_false];exact ⟨ts[k],List.getElem_mem hk,by simp [h]⟩
def FvOk (h:Nat):Prop:=∀ (T:VT) (v:Value) (w:World),InH w h T v→Calls Tryz.prog 134 #[v] w fun e w'=>e= .returned (.bool (q1L h T))∧Below w.heap.size w w'
theorem InH.shape {W:World} {h:Nat} {T:VT} {v0 v1 v2 v3 v4:Value} (hI:InH W h T (.agg #[v0,v1,v2,v3,v4])):∃ (k:Int) (n t:ByteArray) (io:Option Addr) (N icap:Nat) (ko:Option Addr) (K kcap:Nat),v0= .int .i64 k∧v1= .string n∧v2= .string t∧v3= .slice io N icap∧v4= .slice ko K kcap:=by
 cases h with
 | zero=>exact hI.elim
 | succ h=>
  obtain ⟨io,icap,ko,kcap,e,_⟩:=hI.open;simp only [Value.agg.injEq,Array.mk.injEq,List.cons.injEq,and_true] at e;exact ⟨_,_,_,io,_,icap,ko,_,kcap,e.1,e.2.1,e.2.2.1,e.2.2.2.1,e.2.2.2.2⟩
theorem w_allFormed (h:Nat) (ih:FvOk h) (io:Option Addr) (N icap:Nat) (ts:List VT) (w:World) (hi:IIn w h io ts) (hN:ts.length=N) (hcap:N≤icap) (hN2:N≤140737488355328):
 Calls Tryz.prog 178 #[.slice io N icap] w fun e w'=>e= .returned (.bool (ts.all (q1L h)))∧Below w.heap.size w w':=by
 have HI:=hQz hi;have HNN:=hQz hN;have HIh:=hQz ih;clear hi hN ih;go_in;go_wp2_with fail
 go_loopw [7] (fun i wr=>∃ k:Nat,k≤N∧i= .int .i64 (k:Int)∧Hid (Below w.heap.size w wr)∧Hid ((ts.take k).all (q1L h)=true)) (fun i _=>N-(intOf i).toNat)
 case atStart=>exact ⟨0,Nat.zero_le _,rfl,Below.refl _ _,rfl⟩
 case round=>
  obtain ⟨k,hk,rfl,HB,HQ⟩:=hrel;by_cases hlt:k<N
  · have hl1:(k:Int)<(N:Int):=by omega
    have hkl:k<ts.length:=by rw [HNN.out];exact hlt
    obtain ⟨b,off,hio,hbl,hrow⟩:=(HI.out.keep HB.out).row (by omega);subst hio;obtain ⟨v0,v1,v2,v3,v4,⟨c0,c1,c2,c3,c4⟩,ht⟩:=hrow k hkl;obtain ⟨ik,inm,itx,iio,iN,iicap,iko,iK,ikcap,rfl,rfl,rfl,rfl,rfl⟩:=ht.shape;have HBx:=hQz (q0a wr (.cells #[.int .i64 ik,.string inm,.string itx,.slice iio iN iicap,.slice iko iK ikcap] 25));have HC:=hQz (HIh.out _ _ (wr.alloc (.cells #[.int .i64 ik,.string inm,.string itx,.slice iio iN iicap,.slice iko iK ikcap] 25)) (ht.keep HBx.out));have HUp:=hQz (all_up (f:=q1L h) hkl);have HNo:=hQz (fun hh=>all_no (f:=q1L h) hkl hh);clear hrow hbl ht
    cases hf:q1L h ts[k] with
    | true=>
     rw [hf] at HC;have HN:Hid ((ts.take (k+1)).all (q1L h)=true):=by show _=_;rw [HUp.out,HQ.out,hf];rfl
     clear hf hkl HUp HNo;go_wp2_with fail;refine HC.out.mono ?_;rintro e w2 ⟨rfl,hb2⟩;have HB2:=hQz (HB.out.trans ((q1t HBx.out hb2).mono HB.out.size));clear hb2 c0 c1 c2 c3 c4;go_wp2_with fail;go_roundw
     case rel=>exact ⟨k+1,hlt,by go_num,HB2,HN⟩
     case measure=>simp [intOf];omega
    | false=>
     rw [hf] at HC;have HF:=hQz (HNo.out hf);clear hf hkl HUp HNo;go_wp2_with fail;refine HC.out.mono ?_;rintro e w2 ⟨rfl,hb2⟩;have HB2:=hQz (HB.out.trans ((q1t HBx.out hb2).mono HB.out.size));clear hb2 c0 c1 c2 c3 c4;go_wp2_with fail;go_ret;exact ⟨by rw [HF.out];rfl,HB2.out⟩
  · have hl1:¬ (k:Int)<(N:Int):=by omega
    have HF:Hid (ts.all (q1L h)=true):=by
     have h1:=HQ.out;rw [List.take_of_length_le (by rw [HNN.out];omega)] at h1;exact h1
    go_wp2_with fail;go_ret;exact ⟨by rw [HF.out];rfl,HB.out⟩
structure VB2 (w u:World) (a b c d e b' c' d' e':Value):Prop where
 one:VBx w u a b c d e
 two:VBx (w.alloc (.cells #[a,b,c,d,e] 25)) u a b' c' d' e'
theorem VB2.keep {w u u':World} {a b c d e b' c' d' e':Value} (h:VB2 w u a b c d e b' c' d' e') (hb:Below u.heap.size u u'):VB2 w u' a b c d e b' c' d' e':=⟨h.one.keep hb,h.two.keep hb⟩
theorem q21 (w:World) (a b c d e b' c' d' e':Value):VB2 w ((w.alloc (.cells #[a,b,c,d,e] 25)).alloc (.cells #[a,b',c',d',e'] 25)) a b c d e b' c' d' e':=
 ⟨(vbx_new w a b c d e).keep (q0a _ _),vbx_new _ a b' c' d' e'⟩
theorem VB2.d0 {w u:World} {a b c d e b' c' d' e':Value} (h:VB2 w u a b c d e b' c' d' e'):u.cell? ⟨w.heap.size+1,0,none⟩=some a:=by have:=h.two.c0;rwa [World.size_alloc] at this
theorem VB2.d1 {w u:World} {a b c d e b' c' d' e':Value} (h:VB2 w u a b c d e b' c' d' e'):u.cell? ⟨w.heap.size+1,1,none⟩=some b':=by have:=h.two.c1;rwa [World.size_alloc] at this
theorem VB2.d2 {w u:World} {a b c d e b' c' d' e':Value} (h:VB2 w u a b c d e b' c' d' e'):u.cell? ⟨w.heap.size+1,2,none⟩=some c':=by have:=h.two.c2;rwa [World.size_alloc] at this
theorem VB2.d3 {w u:World} {a b c d e b' c' d' e':Value} (h:VB2 w u a b c d e b' c' d' e'):u.cell? ⟨w.heap.size+1,3,none⟩=some d':=by have:=h.two.c3;rwa [World.size_alloc] at this
theorem VB2.d4 {w u:World} {a b c d e b' c' d' e':Value} (h:VB2 w u a b c d e b' c' d' e'):u.cell? ⟨w.heap.size+1,4,none⟩=some e':=by have:=h.two.c4;rwa [World.size_alloc] at this
theorem formv_0 (nm tx:ByteArray) (io:Option Addr) (N icap:Nat) (ko:Option Addr) (K kcap:Nat) (A R O:Bool) (w:World)
 (HAll:Hid (∀ u,Below w.heap.size w u→Calls Tryz.prog 178 #[.slice io N icap] u fun e w'=>e= .returned (.bool A)∧Below u.heap.size u w'))
 (HR:Hid (∀ u,Below w.heap.size w u→Calls Tryz.prog 179 #[.slice ko K kcap] u fun e w'=>e= .returned (.bool R)∧Below u.heap.size u w'))
 (HO:Hid (∀ u,Below w.heap.size w u→Calls Tryz.prog 180 #[.slice ko K kcap] u fun e w'=>e= .returned (.bool O)∧Below u.heap.size u w'))
 (hn:nm.size≤140737488355328) (ht:tx.size≤140737488355328) (hN:N≤icap) (hK:K≤kcap):
 Calls Tryz.prog 134 #[.agg #[.int .i64 0,.string nm,.string tx,.slice io N icap,.slice ko K kcap]] w fun e w'=>e= .returned (.bool (q0L 0 nm tx N K A (R&&O)))∧Below w.heap.size w w':=by
 have HNum:Hid (∀ u,Below w.heap.size w u→Calls Tryz.prog 149 #[.string nm] u fun e w'=>e= .returned (.bool (Pl.formed nm.data.toList))∧Below u.heap.size u w'):=fun u _=>q1a nm u (by unfold maxLen;omega);have HUtf:Hid (∀ u,Below w.heap.size w u→Calls Tryz.prog 34 #[.string tx] u fun e w'=>e= .returned (.bool (okB tx.data.toList))∧Below u.heap.size u w'):=fun u _=>q1I tx u (by omega);have HX:=hQz (q21 w (.int .i64 0) (.string nm) (.string tx) (.slice io N icap) (.slice ko K kcap) (.string nm) (.string tx) (.slice io N icap) (.slice ko K kcap));have HF:Hid (q0L 0 nm tx N K A (R&&O)=bareB nm tx N K):=by show _=_;unfold q0L;rw [if_pos (by omega)]
 go_in;go_wp2_with fail;refine (w_bare 0 nm tx io N icap ko K kcap _).mono ?_;rintro e w9 ⟨rfl,hb9⟩;have HX9:=hQz (HX.out.keep hb9);clear hb9;go_wp2_with fail;go_ret;exact ⟨by rw [HF.out];rfl,HX9.out.one.below⟩
theorem formv_1 (nm tx:ByteArray) (io:Option Addr) (N icap:Nat) (ko:Option Addr) (K kcap:Nat) (A R O:Bool) (w:World)
 (HAll:Hid (∀ u,Below w.heap.size w u→Calls Tryz.prog 178 #[.slice io N icap] u fun e w'=>e= .returned (.bool A)∧Below u.heap.size u w'))
 (HR:Hid (∀ u,Below w.heap.size w u→Calls Tryz.prog 179 #[.slice ko K kcap] u fun e w'=>e= .returned (.bool R)∧Below u.heap.size u w'))
 (HO:Hid (∀ u,Below w.heap.size w u→Calls Tryz.prog 180 #[.slice ko K kcap] u fun e w'=>e= .returned (.bool O)∧Below u.heap.size u w'))
 (hn:nm.size≤140737488355328) (ht:tx.size≤140737488355328) (hN:N≤icap) (hK:K≤kcap):
 Calls Tryz.prog 134 #[.agg #[.int .i64 1,.string nm,.string tx,.slice io N icap,.slice ko K kcap]] w fun e w'=>e= .returned (.bool (q0L 1 nm tx N K A (R&&O)))∧Below w.heap.size w w':=by
 have HNum:Hid (∀ u,Below w.heap.size w u→Calls Tryz.prog 149 #[.string nm] u fun e w'=>e= .returned (.bool (Pl.formed nm.data.toList))∧Below u.heap.size u w'):=fun u _=>q1a nm u (by unfold maxLen;omega);have HUtf:Hid (∀ u,Below w.heap.size w u→Calls Tryz.prog 34 #[.string tx] u fun e w'=>e= .returned (.bool (okB tx.data.toList))∧Below u.heap.size u w'):=fun u _=>q1I tx u (by omega);have HX:=hQz (q21 w (.int .i64 1) (.string nm) (.string tx) (.slice io N icap) (.slice ko K kcap) (.string nm) (.string tx) (.slice io N icap) (.slice ko K kcap));have HF:Hid (q0L 1 nm tx N K A (R&&O)=bareB nm tx N K):=by show _=_;unfold q0L;rw [if_pos (by omega)]
 go_in;go_wp2_with fail;refine (w_bare 1 nm tx io N icap ko K kcap _).mono ?_;rintro e w9 ⟨rfl,hb9⟩;have HX9:=hQz (HX.out.keep hb9);clear hb9;go_wp2_with fail;go_ret;exact ⟨by rw [HF.out];rfl,HX9.out.one.below⟩
theorem formv_2 (nm tx:ByteArray) (io:Option Addr) (N icap:Nat) (ko:Option Addr) (K kcap:Nat) (A R O:Bool) (w:World)
 (HAll:Hid (∀ u,Below w.heap.size w u→Calls Tryz.prog 178 #[.slice io N icap] u fun e w'=>e= .returned (.bool A)∧Below u.heap.size u w'))
 (HR:Hid (∀ u,Below w.heap.size w u→Calls Tryz.prog 179 #[.slice ko K kcap] u fun e w'=>e= .returned (.bool R)∧Below u.heap.size u w'))
 (HO:Hid (∀ u,Below w.heap.size w u→Calls Tryz.prog 180 #[.slice ko K kcap] u fun e w'=>e= .returned (.bool O)∧Below u.heap.size u w'))
 (hn:nm.size≤140737488355328) (ht:tx.size≤140737488355328) (hN:N≤icap) (hK:K≤kcap):
 Calls Tryz.prog 134 #[.agg #[.int .i64 2,.string nm,.string tx,.slice io N icap,.slice ko K kcap]] w fun e w'=>e= .returned (.bool (q0L 2 nm tx N K A (R&&O)))∧Below w.heap.size w w':=by
 have HNum:Hid (∀ u,Below w.heap.size w u→Calls Tryz.prog 149 #[.string nm] u fun e w'=>e= .returned (.bool (Pl.formed nm.data.toList))∧Below u.heap.size u w'):=fun u _=>q1a nm u (by unfold maxLen;omega);have HUtf:Hid (∀ u,Below w.heap.size w u→Calls Tryz.prog 34 #[.string tx] u fun e w'=>e= .returned (.bool (okB tx.data.toList))∧Below u.heap.size u w'):=fun u _=>q1I tx u (by omega);have HX:=hQz (q21 w (.int .i64 2) (.string nm) (.string tx) (.slice io N icap) (.slice ko K kcap) (.string nm) (.string tx) (.slice io N icap) (.slice ko K kcap));have HF:Hid (q0L 2 nm tx N K A (R&&O)=bareB nm tx N K):=by show _=_;unfold q0L;rw [if_pos (by omega)]
 go_in;go_wp2_with fail;refine (w_bare 2 nm tx io N icap ko K kcap _).mono ?_;rintro e w9 ⟨rfl,hb9⟩;have HX9:=hQz (HX.out.keep hb9);clear hb9;go_wp2_with fail;go_ret;exact ⟨by rw [HF.out];rfl,HX9.out.one.below⟩
theorem formv_3 (nm tx:ByteArray) (io:Option Addr) (N icap:Nat) (ko:Option Addr) (K kcap:Nat) (A R O:Bool) (w:World)
 (HAll:Hid (∀ u,Below w.heap.size w u→Calls Tryz.prog 178 #[.slice io N icap] u fun e w'=>e= .returned (.bool A)∧Below u.heap.size u w'))
 (HR:Hid (∀ u,Below w.heap.size w u→Calls Tryz.prog 179 #[.slice ko K kcap] u fun e w'=>e= .returned (.bool R)∧Below u.heap.size u w'))
 (HO:Hid (∀ u,Below w.heap.size w u→Calls Tryz.prog 180 #[.slice ko K kcap] u fun e w'=>e= .returned (.bool O)∧Below u.heap.size u w'))
 (hn:nm.size≤140737488355328) (ht:tx.size≤140737488355328) (hN:N≤icap) (hK:K≤kcap):
 Calls Tryz.prog 134 #[.agg #[.int .i64 3,.string nm,.string tx,.slice io N icap,.slice ko K kcap]] w fun e w'=>e= .returned (.bool (q0L 3 nm tx N K A (R&&O)))∧Below w.heap.size w w':=by
 have HNum:Hid (∀ u,Below w.heap.size w u→Calls Tryz.prog 149 #[.string nm] u fun e w'=>e= .returned (.bool (Pl.formed nm.data.toList))∧Below u.heap.size u w'):=fun u _=>q1a nm u (by unfold maxLen;omega);have HUtf:Hid (∀ u,Below w.heap.size w u→Calls Tryz.prog 34 #[.string tx] u fun e w'=>e= .returned (.bool (okB tx.data.toList))∧Below u.heap.size u w'):=fun u _=>q1I tx u (by omega);have HX:=hQz (q21 w (.int .i64 3) (.string nm) (.string tx) (.slice io N icap) (.slice ko K kcap) (.string (⟨#[]⟩:ByteArray)) (.string tx) (.slice io N icap) (.slice ko K kcap))
 cases hc:Pl.formed nm.data.toList with
 | false=>
  have HF:Hid (q0L 3 nm tx N K A (R&&O)=false):=by show _=_;unfold q0L;rw [if_neg (by omega),if_pos rfl,hc];rfl
  rw [hc] at HNum;go_in;go_wp2_with fail;refine (HNum.out _ HX.out.one.below).mono ?_;rintro e w2 ⟨rfl,hw2⟩;have HX2:=hQz (HX.out.keep hw2);clear hw2;go_wp2_with fail;go_ret;exact ⟨by rw [HF.out];rfl,HX2.out.one.below⟩
 | true=>
  have HF:Hid (q0L 3 nm tx N K A (R&&O)=bareB .empty tx N K):=by show _=_;unfold q0L;rw [if_neg (by omega),if_pos rfl,hc];rfl
  rw [hc] at HNum;go_in;go_wp2_with fail;refine (HNum.out _ HX.out.one.below).mono ?_;rintro e w2 ⟨rfl,hw2⟩;have HX2:=hQz (HX.out.keep hw2);clear hw2;have q0HX2:=HX2.out.d0;have q1HX2:=HX2.out.d1;have q2HX2:=HX2.out.d2;have q3HX2:=HX2.out.d3;have q4HX2:=HX2.out.d4;go_wp2_with fail;refine (w_bare 3 (⟨#[]⟩:ByteArray) tx io N icap ko K kcap _).mono ?_;rintro e w9 ⟨rfl,hb9⟩;have HX9:=hQz (HX2.out.keep hb9);clear hb9;go_wp2_with fail;go_ret;exact ⟨by rw [HF.out];rfl,HX9.out.one.below⟩
theorem formv_4 (nm tx:ByteArray) (io:Option Addr) (N icap:Nat) (ko:Option Addr) (K kcap:Nat) (A R O:Bool) (w:World)
 (HAll:Hid (∀ u,Below w.heap.size w u→Calls Tryz.prog 178 #[.slice io N icap] u fun e w'=>e= .returned (.bool A)∧Below u.heap.size u w'))
 (HR:Hid (∀ u,Below w.heap.size w u→Calls Tryz.prog 179 #[.slice ko K kcap] u fun e w'=>e= .returned (.bool R)∧Below u.heap.size u w'))
 (HO:Hid (∀ u,Below w.heap.size w u→Calls Tryz.prog 180 #[.slice ko K kcap] u fun e w'=>e= .returned (.bool O)∧Below u.heap.size u w'))
 (hn:nm.size≤140737488355328) (ht:tx.size≤140737488355328) (hN:N≤icap) (hK:K≤kcap):
 Calls Tryz.prog 134 #[.agg #[.int .i64 4,.string nm,.string tx,.slice io N icap,.slice ko K kcap]] w fun e w'=>e= .returned (.bool (q0L 4 nm tx N K A (R&&O)))∧Below w.heap.size w w':=by
 have HNum:Hid (∀ u,Below w.heap.size w u→Calls Tryz.prog 149 #[.string nm] u fun e w'=>e= .returned (.bool (Pl.formed nm.data.toList))∧Below u.heap.size u w'):=fun u _=>q1a nm u (by unfold maxLen;omega);have HUtf:Hid (∀ u,Below w.heap.size w u→Calls Tryz.prog 34 #[.string tx] u fun e w'=>e= .returned (.bool (okB tx.data.toList))∧Below u.heap.size u w'):=fun u _=>q1I tx u (by omega);have HX:=hQz (q21 w (.int .i64 4) (.string nm) (.string tx) (.slice io N icap) (.slice ko K kcap) (.string nm) (.string (⟨#[]⟩:ByteArray)) (.slice io N icap) (.slice ko K kcap))
 cases hc:okB tx.data.toList with
 | false=>
  have HF:Hid (q0L 4 nm tx N K A (R&&O)=false):=by show _=_;unfold q0L;rw [if_neg (by omega),if_neg (by omega),if_pos rfl,hc];rfl
  rw [hc] at HUtf;go_in;go_wp2_with fail;refine (HUtf.out _ HX.out.one.below).mono ?_;rintro e w2 ⟨rfl,hw2⟩;have HX2:=hQz (HX.out.keep hw2);clear hw2;go_wp2_with fail;go_ret;exact ⟨by rw [HF.out];rfl,HX2.out.one.below⟩
 | true=>
  have HF:Hid (q0L 4 nm tx N K A (R&&O)=bareB nm .empty N K):=by show _=_;unfold q0L;rw [if_neg (by omega),if_neg (by omega),if_pos rfl,hc];rfl
  rw [hc] at HUtf;go_in;go_wp2_with fail;refine (HUtf.out _ HX.out.one.below).mono ?_;rintro e w2 ⟨rfl,hw2⟩;have HX2:=hQz (HX.out.keep hw2);clear hw2;have q0HX2:=HX2.out.d0;have q1HX2:=HX2.out.d1;have q2HX2:=HX2.out.d2;have q3HX2:=HX2.out.d3;have q4HX2:=HX2.out.d4;go_wp2_with fail;refine (w_bare 4 nm (⟨#[]⟩:ByteArray) io N icap ko K kcap _).mono ?_;rintro e w9 ⟨rfl,hb9⟩;have HX9:=hQz (HX2.out.keep hb9);clear hb9;go_wp2_with fail;go_ret;exact ⟨by rw [HF.out];rfl,HX9.out.one.below⟩
theorem formv_5 (nm tx:ByteArray) (io:Option Addr) (N icap:Nat) (ko:Option Addr) (K kcap:Nat) (A R O:Bool) (w:World)
 (HAll:Hid (∀ u,Below w.heap.size w u→Calls Tryz.prog 178 #[.slice io N icap] u fun e w'=>e= .returned (.bool A)∧Below u.heap.size u w'))
 (HR:Hid (∀ u,Below w.heap.size w u→Calls Tryz.prog 179 #[.slice ko K kcap] u fun e w'=>e= .returned (.bool R)∧Below u.heap.size u w'))
 (HO:Hid (∀ u,Below w.heap.size w u→Calls Tryz.prog 180 #[.slice ko K kcap] u fun e w'=>e= .returned (.bool O)∧Below u.heap.size u w'))
 (hn:nm.size≤140737488355328) (ht:tx.size≤140737488355328) (hN:N≤icap) (hK:K≤kcap):
 Calls Tryz.prog 134 #[.agg #[.int .i64 5,.string nm,.string tx,.slice io N icap,.slice ko K kcap]] w fun e w'=>e= .returned (.bool (q0L 5 nm tx N K A (R&&O)))∧Below w.heap.size w w':=by
 have HNum:Hid (∀ u,Below w.heap.size w u→Calls Tryz.prog 149 #[.string nm] u fun e w'=>e= .returned (.bool (Pl.formed nm.data.toList))∧Below u.heap.size u w'):=fun u _=>q1a nm u (by unfold maxLen;omega);have HUtf:Hid (∀ u,Below w.heap.size w u→Calls Tryz.prog 34 #[.string tx] u fun e w'=>e= .returned (.bool (okB tx.data.toList))∧Below u.heap.size u w'):=fun u _=>q1I tx u (by omega);have HX:=hQz (q21 w (.int .i64 5) (.string nm) (.string tx) (.slice io N icap) (.slice ko K kcap) (.string nm) (.string tx) (.slice none 0 0) (.slice ko K kcap))
 cases hc:A with
 | false=>
  have HF:Hid (q0L 5 nm tx N K false (R&&O)=false):=by show _=_;unfold q0L;rw [if_neg (by omega),if_neg (by omega),if_neg (by omega),if_pos rfl];rfl
  rw [hc] at HAll;go_in;go_wp2_with fail;refine (HAll.out _ HX.out.one.below).mono ?_;rintro e w2 ⟨rfl,hw2⟩;have HX2:=hQz (HX.out.keep hw2);clear hw2;go_wp2_with fail;go_ret;exact ⟨by rw [HF.out];rfl,HX2.out.one.below⟩
 | true=>
  have HF:Hid (q0L 5 nm tx N K true (R&&O)=bareB nm tx 0 K):=by show _=_;unfold q0L;rw [if_neg (by omega),if_neg (by omega),if_neg (by omega),if_pos rfl];rfl
  rw [hc] at HAll;go_in;go_wp2_with fail;refine (HAll.out _ HX.out.one.below).mono ?_;rintro e w2 ⟨rfl,hw2⟩;have HX2:=hQz (HX.out.keep hw2);clear hw2;have q0HX2:=HX2.out.d0;have q1HX2:=HX2.out.d1;have q2HX2:=HX2.out.d2;have q3HX2:=HX2.out.d3;have q4HX2:=HX2.out.d4;go_wp2_with fail;refine (w_bare 5 nm tx none 0 0 ko K kcap _).mono ?_;rintro e w9 ⟨rfl,hb9⟩;have HX9:=hQz (HX2.out.keep hb9);clear hb9;go_wp2_with fail;go_ret;exact ⟨by rw [HF.out];rfl,HX9.out.one.below⟩
theorem formv_6 (nm tx:ByteArray) (io:Option Addr) (N icap:Nat) (ko:Option Addr) (K kcap:Nat) (A R O:Bool) (w:World)
 (HAll:Hid (∀ u,Below w.heap.size w u→Calls Tryz.prog 178 #[.slice io N icap] u fun e w'=>e= .returned (.bool A)∧Below u.heap.size u w'))
 (HR:Hid (∀ u,Below w.heap.size w u→Calls Tryz.prog 179 #[.slice ko K kcap] u fun e w'=>e= .returned (.bool R)∧Below u.heap.size u w'))
 (HO:Hid (∀ u,Below w.heap.size w u→Calls Tryz.prog 180 #[.slice ko K kcap] u fun e w'=>e= .returned (.bool O)∧Below u.heap.size u w'))
 (hn:nm.size≤140737488355328) (ht:tx.size≤140737488355328) (hN:N≤icap) (hK:K≤kcap):
 Calls Tryz.prog 134 #[.agg #[.int .i64 6,.string nm,.string tx,.slice io N icap,.slice ko K kcap]] w fun e w'=>e= .returned (.bool (q0L 6 nm tx N K A (R&&O)))∧Below w.heap.size w w':=by
 have HNum:Hid (∀ u,Below w.heap.size w u→Calls Tryz.prog 149 #[.string nm] u fun e w'=>e= .returned (.bool (Pl.formed nm.data.toList))∧Below u.heap.size u w'):=fun u _=>q1a nm u (by unfold maxLen;omega);have HUtf:Hid (∀ u,Below w.heap.size w u→Calls Tryz.prog 34 #[.string tx] u fun e w'=>e= .returned (.bool (okB tx.data.toList))∧Below u.heap.size u w'):=fun u _=>q1I tx u (by omega);have HX:=hQz (q21 w (.int .i64 6) (.string nm) (.string tx) (.slice io N icap) (.slice ko K kcap) (.string nm) (.string tx) (.slice none 0 0) (.slice none 0 0));by_cases hKN:K=N
 · have hKN1:((K:Int)==(N:Int))=true:=by rw [beq_iff_eq];omega
   have HKN:Hid (decide (K=N)=true):=decide_eq_true hKN;clear hKN
   cases hR:R with
   | false=>
    have HF:Hid (q0L 6 nm tx N K A (false&&O)=false):=by show _=_;unfold q0L;rw [if_neg (by omega),if_neg (by omega),if_neg (by omega),if_neg (by omega),if_pos rfl];simp
    rw [hR] at HR;go_in;go_wp2_with fail;refine (HR.out _ HX.out.one.below).mono ?_;rintro e w2 ⟨rfl,hw2⟩;have HX2:=hQz (HX.out.keep hw2);clear hw2;have p3HX2:=HX2.out.one.c3;have p4HX2:=HX2.out.one.c4;go_wp2_with fail;go_ret;exact ⟨by rw [HF.out];rfl,HX2.out.one.below⟩
   | true=>
    rw [hR] at HR
    cases hO:O with
    | false=>
     have HF:Hid (q0L 6 nm tx N K A (true&&false)=false):=by show _=_;unfold q0L;rw [if_neg (by omega),if_neg (by omega),if_neg (by omega),if_neg (by omega),if_pos rfl];simp
     rw [hO] at HO;go_in;go_wp2_with fail;refine (HR.out _ HX.out.one.below).mono ?_;rintro e w2 ⟨rfl,hw2⟩;have HX2:=hQz (HX.out.keep hw2);clear hw2;have p3HX2:=HX2.out.one.c3;have p4HX2:=HX2.out.one.c4;go_wp2_with fail;refine (HO.out _ HX2.out.one.below).mono ?_;rintro e w3 ⟨rfl,hw3⟩;have HX3:=hQz (HX2.out.keep hw3);clear hw3;have p3HX3:=HX3.out.one.c3;have p4HX3:=HX3.out.one.c4;go_wp2_with fail;go_ret;exact ⟨by rw [HF.out];rfl,HX3.out.one.below⟩
    | true=>
     rw [hO] at HO
     cases hA:A with
     | false=>
      have HF:Hid (q0L 6 nm tx N K false (true&&true)=false):=by show _=_;unfold q0L;rw [if_neg (by omega),if_neg (by omega),if_neg (by omega),if_neg (by omega),if_pos rfl];simp
      rw [hA] at HAll;go_in;go_wp2_with fail;refine (HR.out _ HX.out.one.below).mono ?_;rintro e w2 ⟨rfl,hw2⟩;have HX2:=hQz (HX.out.keep hw2);clear hw2;have p3HX2:=HX2.out.one.c3;have p4HX2:=HX2.out.one.c4;go_wp2_with fail;refine (HO.out _ HX2.out.one.below).mono ?_;rintro e w3 ⟨rfl,hw3⟩;have HX3:=hQz (HX2.out.keep hw3);clear hw3;have p3HX3:=HX3.out.one.c3;have p4HX3:=HX3.out.one.c4;go_wp2_with fail;refine (HAll.out _ HX3.out.one.below).mono ?_;rintro e w4 ⟨rfl,hw4⟩;have HX4:=hQz (HX3.out.keep hw4);clear hw4;have q0HX4:=HX4.out.d0;have q1HX4:=HX4.out.d1;have q2HX4:=HX4.out.d2;have q3HX4:=HX4.out.d3;have q4HX4:=HX4.out.d4;go_wp2_with fail;go_ret;exact ⟨by rw [HF.out];rfl,HX4.out.one.below⟩
     | true=>
      have HF:Hid (q0L 6 nm tx N K true (true&&true)=bareB nm tx 0 0):=by show _=_;unfold q0L;rw [if_neg (by omega),if_neg (by omega),if_neg (by omega),if_neg (by omega),if_pos rfl,HKN.out];rfl
      rw [hA] at HAll;go_in;go_wp2_with fail;refine (HR.out _ HX.out.one.below).mono ?_;rintro e w2 ⟨rfl,hw2⟩;have HX2:=hQz (HX.out.keep hw2);clear hw2;have p3HX2:=HX2.out.one.c3;have p4HX2:=HX2.out.one.c4;go_wp2_with fail;refine (HO.out _ HX2.out.one.below).mono ?_;rintro e w3 ⟨rfl,hw3⟩;have HX3:=hQz (HX2.out.keep hw3);clear hw3;have p3HX3:=HX3.out.one.c3;have p4HX3:=HX3.out.one.c4;go_wp2_with fail;refine (HAll.out _ HX3.out.one.below).mono ?_;rintro e w4 ⟨rfl,hw4⟩;have HX4:=hQz (HX3.out.keep hw4);clear hw4;have q0HX4:=HX4.out.d0;have q1HX4:=HX4.out.d1;have q2HX4:=HX4.out.d2;have q3HX4:=HX4.out.d3;have q4HX4:=HX4.out.d4;go_wp2_with fail;refine (w_bare 6 nm tx none 0 0 none 0 0 _).mono ?_;rintro e w9 ⟨rfl,hb9⟩;have HX9:=hQz (HX4.out.keep hb9);clear hb9;go_wp2_with fail;go_ret;exact ⟨by rw [HF.out];rfl,HX9.out.one.below⟩
 · have hKN1:((K:Int)==(N:Int))=false:=by rw [bqZ];omega
   have HF:Hid (q0L 6 nm tx N K A (R&&O)=false):=by show _=_;unfold q0L;rw [if_neg (by omega),if_neg (by omega),if_neg (by omega),if_neg (by omega),if_pos rfl,decide_eq_false hKN];simp
   clear hKN;go_in;go_wp2_with fail;go_ret;exact ⟨by rw [HF.out];rfl,HX.out.one.below⟩
theorem formv_else (kd:Int) (k0:kd≠0) (k1:kd≠1) (k2:kd≠2) (k3:kd≠3) (k4:kd≠4) (k5:kd≠5) (k6:kd≠6) (nm tx:ByteArray) (io:Option Addr) (N icap:Nat) (ko:Option Addr) (K kcap:Nat) (A R O:Bool) (w:World)
 (HAll:Hid (∀ u,Below w.heap.size w u→Calls Tryz.prog 178 #[.slice io N icap] u fun e w'=>e= .returned (.bool A)∧Below u.heap.size u w'))
 (HR:Hid (∀ u,Below w.heap.size w u→Calls Tryz.prog 179 #[.slice ko K kcap] u fun e w'=>e= .returned (.bool R)∧Below u.heap.size u w'))
 (HO:Hid (∀ u,Below w.heap.size w u→Calls Tryz.prog 180 #[.slice ko K kcap] u fun e w'=>e= .returned (.bool O)∧Below u.heap.size u w'))
 (hn:nm.size≤140737488355328) (ht:tx.size≤140737488355328) (hN:N≤icap) (hK:K≤kcap):
 Calls Tryz.prog 134 #[.agg #[.int .i64 kd,.string nm,.string tx,.slice io N icap,.slice ko K kcap]] w fun e w'=>e= .returned (.bool (q0L kd nm tx N K A (R&&O)))∧Below w.heap.size w w':=by
 have HNum:Hid (∀ u,Below w.heap.size w u→Calls Tryz.prog 149 #[.string nm] u fun e w'=>e= .returned (.bool (Pl.formed nm.data.toList))∧Below u.heap.size u w'):=fun u _=>q1a nm u (by unfold maxLen;omega);have HUtf:Hid (∀ u,Below w.heap.size w u→Calls Tryz.prog 34 #[.string tx] u fun e w'=>e= .returned (.bool (okB tx.data.toList))∧Below u.heap.size u w'):=fun u _=>q1I tx u (by omega);have HX:=hQz (q21 w (.int .i64 kd) (.string nm) (.string tx) (.slice io N icap) (.slice ko K kcap) (.string nm) (.string tx) (.slice io N icap) (.slice ko K kcap));have HF:Hid (q0L kd nm tx N K A (R&&O)=false):=by show _=_;unfold q0L;rw [if_neg (by omega),if_neg (by omega),if_neg (by omega),if_neg (by omega),if_neg (by omega)]
 have b0:(kd==0)=false:=by rw [bqZ];exact k0
 have b1:(kd==1)=false:=by rw [bqZ];exact k1
 have b2:(kd==2)=false:=by rw [bqZ];exact k2
 have b3:(kd==3)=false:=by rw [bqZ];exact k3
 have b4:(kd==4)=false:=by rw [bqZ];exact k4
 have b5:(kd==5)=false:=by rw [bqZ];exact k5
 have b6:(kd==6)=false:=by rw [bqZ];exact k6
 clear k0 k1 k2 k3 k4 k5 k6;go_in;go_wp2_with fail;go_ret;exact ⟨by rw [HF.out];rfl,HX.out.one.below⟩
theorem formv_ok (kd:Int) (nm tx:ByteArray) (io:Option Addr) (N icap:Nat) (ko:Option Addr) (K kcap:Nat) (A R O:Bool) (w:World)
 (HAll:Hid (∀ u,Below w.heap.size w u→Calls Tryz.prog 178 #[.slice io N icap] u fun e w'=>e= .returned (.bool A)∧Below u.heap.size u w'))
 (HR:Hid (∀ u,Below w.heap.size w u→Calls Tryz.prog 179 #[.slice ko K kcap] u fun e w'=>e= .returned (.bool R)∧Below u.heap.size u w'))
 (HO:Hid (∀ u,Below w.heap.size w u→Calls Tryz.prog 180 #[.slice ko K kcap] u fun e w'=>e= .returned (.bool O)∧Below u.heap.size u w'))
 (hn:nm.size≤140737488355328) (ht:tx.size≤140737488355328) (hN:N≤icap) (hK:K≤kcap):
 Calls Tryz.prog 134 #[.agg #[.int .i64 kd,.string nm,.string tx,.slice io N icap,.slice ko K kcap]] w fun e w'=>e= .returned (.bool (q0L kd nm tx N K A (R&&O)))∧Below w.heap.size w w':=by
 by_cases k0:kd=0
 · subst k0;exact formv_0 nm tx io N icap ko K kcap A R O w HAll HR HO hn ht hN hK
 by_cases k1:kd=1
 · subst k1;exact formv_1 nm tx io N icap ko K kcap A R O w HAll HR HO hn ht hN hK
 by_cases k2:kd=2
 · subst k2;exact formv_2 nm tx io N icap ko K kcap A R O w HAll HR HO hn ht hN hK
 by_cases k3:kd=3
 · subst k3;exact formv_3 nm tx io N icap ko K kcap A R O w HAll HR HO hn ht hN hK
 by_cases k4:kd=4
 · subst k4;exact formv_4 nm tx io N icap ko K kcap A R O w HAll HR HO hn ht hN hK
 by_cases k5:kd=5
 · subst k5;exact formv_5 nm tx io N icap ko K kcap A R O w HAll HR HO hn ht hN hK
 by_cases k6:kd=6
 · subst k6;exact formv_6 nm tx io N icap ko K kcap A R O w HAll HR HO hn ht hN hK
 exact formv_else kd k0 k1 k2 k3 k4 k5 k6 nm tx io N icap ko K kcap A R O w HAll HR HO hn ht hN hK
theorem w_vFormed:∀ h,FvOk h
 | 0=>fun T v w hI=>hI.elim
 | h+1=>fun T v w hI=>by
  obtain ⟨io,icap,ko,kcap,rfl,a1,a2,a3,a4,a5,a6,a7,hk,hi⟩:=hI.open
  exact formv_ok T.kind T.num T.text io T.items.length icap ko T.keys.length kcap (T.items.all (q1L h)) (rK T.keys T.keys.length) (oK T.keys T.keys.length) w
   (fun u hu=>w_allFormed h (w_vFormed h) io T.items.length icap T.items u (hi.keep hu) rfl a5 a3)
   (fun u hu=>w_rising ko T.keys.length kcap T.keys u (hk.keep hu) rfl a6 a4)
   (fun u hu=>w_allValid ko T.keys.length kcap T.keys u (hk.keep hu) rfl a6 a4 a7) a1 a2 a5 a6
end Go.Proofs.YtdjleoglphgdgaaGreatDoor
