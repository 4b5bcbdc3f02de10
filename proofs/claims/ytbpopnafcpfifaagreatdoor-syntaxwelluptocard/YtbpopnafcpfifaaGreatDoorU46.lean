import Derived.Test.YtbpopnafcpfifaaGreatDoorU45
import Derived.Test.YtbpopnafcpfifaaGreatDoorU27
import Derived.Test.YtbpopnafcpfifaaGreatDoorU30
import Derived.Test.YtbpopnafcpfifaaGreatDoorU0
set_option linter.unusedVariables false
set_option linter.unusedSimpArgs false
namespace Go.Proofs.YtbpopnafcpfifaaGreatDoor
open Go.RowKit Go.Shelf Go.Sort
attribute [local go_sem] Oper.semAt_some
set_option maxRecDepth 100000
set_option maxHeartbeats 12800000
noncomputable def kfB (fm:NT→Bool) (op:Int) (ks:List NT) (i:Nat) (k:NT):Bool:=
 if op=8∧0<i∧sq (noA k) (noA nn0)=true then !(sq (noA (ks.getD (3-i) nn0)) (noA nn0))
 else if op=3∧i%2=0 then decide (k.op=2)&&decide (k.value.kind=4)&&fm k
 else fm k
noncomputable def fpN:Nat→NT→Bool
 | 0,_=>false
 | h+1,A=>mfB A.op (A.kids.length:Int)&&((List.range A.kids.length).all fun i=>kfB (fpN h) A.op A.kids i (A.kids.getD i nn0))&&ttB A.op A.text&&vfB (h+1) A.op A.value&&nsB A.op A.names
def FpNOk (h:Nat):Prop:=∀ (A:NT) (g o:Nat) (w:World),NAt w h A g o→Calls Tryz.prog 12 #[.pointer (some ⟨g,o,none⟩)] w fun e w'=>e= .returned (.bool (fpN h A))∧Below w.heap.size w w'
theorem getD_kid {l:List NT} {i:Nat} (h:i<l.length):l.getD i nn0=l[i]:=by rw [List.getD_eq_getElem?_getD,List.getElem?_eq_getElem h];rfl
theorem NAt.pos {w:World} {h:Nat} {A:NT} {g o:Nat} (hv:NAt w h A g o):∃ n,h=n+1:=by
 cases h with
 | zero=>obtain ⟨_,_,hA⟩:=hv;exact hA.elim
 | succ n=>exact ⟨n,rfl⟩
theorem w_kidFits (h:Nat) (ih:FpNOk h) (A:NT) (g o i:Nat) (w:World) (hA:NAt w (h+1) A g o) (hi:i<A.kids.length) (h8:A.op=8→A.kids.length=3):Calls Tryz.prog 52 #[.pointer (some ⟨g,o,none⟩),.int .i64 (i:Int)] w fun e w'=>e= .returned (.bool (kfB (fpN h) A.op A.kids i (A.kids.getD i nn0)))∧Below w.heap.size w w':=by
 obtain ⟨aio,aic,ayo,ayc,ano,anc,ako,akc,HA⟩:=hA.open_;obtain ⟨b,off,e1,hr⟩:=HA.kids (by omega);have hk:=hr i hi;obtain ⟨h',hh⟩:=hk.pos;rw [getD_kid hi];have c0:=HA.c0;have c9:=HA.c9;have HC9:=hQz HA.c9;have hcap:=HA.kl.1;have hbig:=HA.kl.2
 have HN:Hid (∀ u,Below w.heap.size w u→Calls Tryz.prog 78 #[.pointer (some ⟨b,off+i*10,none⟩)] u fun e w'=>e= .returned (.bool (sq (noA A.kids[i]) (noA nn0)))∧Below u.heap.size u w'):=fun u hu=>by
  have:=hk.keep hu;rw [hh] at this;exact w_isNone h' _ _ _ u this
 have HO:Hid (A.op=8→0<i→∀ u,Below w.heap.size w u→Calls Tryz.prog 78 #[.pointer (some ⟨b,off+(3-i)*10,none⟩)] u fun e w'=>e= .returned (.bool (sq (noA (A.kids.getD (3-i) nn0)) (noA nn0)))∧Below u.heap.size u w'):=fun ho h0 u hu=>by
  have hl:=h8 ho;have:=(hr (3-i) (by omega)).keep hu;rw [hh] at this;rw [getD_kid (show 3-i<A.kids.length by omega)];exact w_isNone h' _ _ _ u this
 have HF:Hid (∀ u,Below w.heap.size w u→Calls Tryz.prog 12 #[.pointer (some ⟨b,off+i*10,none⟩)] u fun e w'=>e= .returned (.bool (fpN h A.kids[i]))∧Below u.heap.size u w'):=fun u hu=>ih _ _ _ u (hk.keep hu)
 obtain ⟨q0,q3⟩:w.cell? ⟨b,off+i*10,none⟩=some (.int .i64 A.kids[i].op)∧w.cell? ⟨b,off+i*10+3,none⟩=some (.int .i64 A.kids[i].value.kind):=by
  rw [hh] at hk;obtain ⟨_,_,_,_,_,_,_,_,HK⟩:=hk.open_;exact ⟨HK.c0,HK.c3⟩
 obtain ⟨R,hR⟩:∃ R,kfB (fpN h) A.op A.kids i A.kids[i]=R:=⟨_,rfl⟩;rw [hR];unfold kfB at hR;have HR:=hQz hR;clear hR;have H8:Hid (A.op=8→A.kids.length=3):=h8;generalize sq (noA A.kids[i]) (noA nn0)=r1 at *;generalize sq (noA (A.kids.getD (3-i) nn0)) (noA nn0)=r2 at *;generalize fpN h A.kids[i]=r3 at *;generalize A.kids[i].op=ko at *;generalize A.kids[i].value.kind=kk at *;rw [e1] at c9 HC9;clear HA hA hk hr e1 h8;generalize A.kids.length=N at *;generalize A.op=aop at *;have hi1:(i:Int)<(N:Int):=by omega
 have hi0:(0:Int)≤(i:Int):=by omega
 have HC0:=hQz c0;have HQ0:=hQz q0;have HQ3:=hQz q3;have HB0:Hid (Below w.heap.size w w):=Below.refl _ _;by_cases k8:aop=8
 · subst k8;have hN3:=H8.out rfl;subst hN3;by_cases i0:i=0
   · subst i0;have HT:Hid (R=r3):=HR.out.symm.trans (by rw [if_neg (by simp),if_neg (by simp)]);clear HR HO H8;go_enter Tryz.func52,Tryz.ntmps52;go_wp2_with fail;refine (HF.out _ HB0.out).mono ?_;rintro e w1 ⟨rfl,hb1⟩;have HB1:=hQz (HB0.out.trans (hb1.mono HB0.out.size));clear hb1;go_wp2_with fail;go_ret;exact ⟨by rw [HT.out];rfl,HB1.out⟩
   by_cases i1:i=1
   · subst i1;have HO1:=hQz (HO.out rfl (by omega))
     cases r1 with
     | true=>
      have HT:Hid (R= !r2):=HR.out.symm.trans (by rw [if_pos ⟨rfl,by omega,rfl⟩]);clear HR HO H8;go_enter Tryz.func52,Tryz.ntmps52;go_wp2_with fail;refine (HN.out _ HB0.out).mono ?_;rintro e w1 ⟨rfl,hb1⟩;have HB1:=hQz (HB0.out.trans (hb1.mono HB0.out.size));clear hb1;have c9x:=(HB1.out.cell (p:=⟨g,o+9,none⟩) (block_lt_of_cell HC9.out)).trans HC9.out;have c0x:=(HB1.out.cell (p:=⟨g,o,none⟩) (block_lt_of_cell HC0.out)).trans HC0.out;go_wp2_with fail;refine (HO1.out _ HB1.out).mono ?_;rintro e w2 ⟨rfl,hb2⟩;have HB2:=hQz (HB1.out.trans (hb2.mono HB1.out.size));clear hb2;go_wp2_with fail;go_ret;exact ⟨by rw [HT.out];rfl,HB2.out⟩
     | false=>
      have HT:Hid (R=r3):=HR.out.symm.trans (by rw [if_neg (by simp),if_neg (by simp)]);clear HR HO H8;go_enter Tryz.func52,Tryz.ntmps52;go_wp2_with fail;refine (HN.out _ HB0.out).mono ?_;rintro e w1 ⟨rfl,hb1⟩;have HB1:=hQz (HB0.out.trans (hb1.mono HB0.out.size));clear hb1;have c9x:=(HB1.out.cell (p:=⟨g,o+9,none⟩) (block_lt_of_cell HC9.out)).trans HC9.out;have c0x:=(HB1.out.cell (p:=⟨g,o,none⟩) (block_lt_of_cell HC0.out)).trans HC0.out;go_wp2_with fail;refine (HF.out _ HB1.out).mono ?_;rintro e w2 ⟨rfl,hb2⟩;have HB2:=hQz (HB1.out.trans (hb2.mono HB1.out.size));clear hb2;go_wp2_with fail;go_ret;exact ⟨by rw [HT.out];rfl,HB2.out⟩
   by_cases i2:i=2
   · subst i2;have HO1:=hQz (HO.out rfl (by omega))
     cases r1 with
     | true=>
      have HT:Hid (R= !r2):=HR.out.symm.trans (by rw [if_pos ⟨rfl,by omega,rfl⟩]);clear HR HO H8;go_enter Tryz.func52,Tryz.ntmps52;go_wp2_with fail;refine (HN.out _ HB0.out).mono ?_;rintro e w1 ⟨rfl,hb1⟩;have HB1:=hQz (HB0.out.trans (hb1.mono HB0.out.size));clear hb1;have c9x:=(HB1.out.cell (p:=⟨g,o+9,none⟩) (block_lt_of_cell HC9.out)).trans HC9.out;have c0x:=(HB1.out.cell (p:=⟨g,o,none⟩) (block_lt_of_cell HC0.out)).trans HC0.out;go_wp2_with fail;refine (HO1.out _ HB1.out).mono ?_;rintro e w2 ⟨rfl,hb2⟩;have HB2:=hQz (HB1.out.trans (hb2.mono HB1.out.size));clear hb2;go_wp2_with fail;go_ret;exact ⟨by rw [HT.out];rfl,HB2.out⟩
     | false=>
      have HT:Hid (R=r3):=HR.out.symm.trans (by rw [if_neg (by simp),if_neg (by simp)]);clear HR HO H8;go_enter Tryz.func52,Tryz.ntmps52;go_wp2_with fail;refine (HN.out _ HB0.out).mono ?_;rintro e w1 ⟨rfl,hb1⟩;have HB1:=hQz (HB0.out.trans (hb1.mono HB0.out.size));clear hb1;have c9x:=(HB1.out.cell (p:=⟨g,o+9,none⟩) (block_lt_of_cell HC9.out)).trans HC9.out;have c0x:=(HB1.out.cell (p:=⟨g,o,none⟩) (block_lt_of_cell HC0.out)).trans HC0.out;go_wp2_with fail;refine (HF.out _ HB1.out).mono ?_;rintro e w2 ⟨rfl,hb2⟩;have HB2:=hQz (HB1.out.trans (hb2.mono HB1.out.size));clear hb2;go_wp2_with fail;go_ret;exact ⟨by rw [HT.out];rfl,HB2.out⟩
   exfalso;omega
 have b8:(aop==8)=false:=by rw [bqZ];exact k8
 by_cases k3:aop=3
 · subst k3;by_cases hp:i%2=0
   · have hp2:((i:Int)%2==0)=true:=by
      have:(i:Int)%2=0:=by omega
      rw [this];rfl
     have HR3:Hid (R=(decide (ko=2)&&decide (kk=4)&&r3)):=HR.out.symm.trans (by rw [if_neg (by simp),if_pos ⟨rfl,hp⟩]);have HPp:=hQz hp;clear HR HO H8 hp;by_cases o2:ko=2
     · subst o2;by_cases o4:kk=4
       · subst o4;have HT:Hid (R=r3):=HR3.out.trans (by simp);go_enter Tryz.func52,Tryz.ntmps52;go_wp2_with fail;refine (HF.out _ HB0.out).mono ?_;rintro e w1 ⟨rfl,hb1⟩;have HB1:=hQz (HB0.out.trans (hb1.mono HB0.out.size));clear hb1;go_wp2_with fail;go_ret;exact ⟨by rw [HT.out];rfl,HB1.out⟩
       · have o4b:(kk==4)=false:=by rw [bqZ];exact o4
         have HT:Hid (R=false):=HR3.out.trans (by simp [o4]);clear o4;go_enter Tryz.func52,Tryz.ntmps52;go_wp2_with fail;go_ret;exact ⟨by rw [HT.out];rfl,HB0.out⟩
     · have o2b:(ko==2)=false:=by rw [bqZ];exact o2
       have HT:Hid (R=false):=HR3.out.trans (by simp [o2]);clear o2;go_enter Tryz.func52,Tryz.ntmps52;go_wp2_with fail;go_ret;exact ⟨by rw [HT.out];rfl,HB0.out⟩
   · have hp2:((i:Int)%2==0)=false:=by rw [bqZ];omega
     have HT:Hid (R=r3):=HR.out.symm.trans (by rw [if_neg (by simp),if_neg (fun h=>hp h.2)]);clear HR HO H8 hp;go_enter Tryz.func52,Tryz.ntmps52;go_wp2_with fail;refine (HF.out _ HB0.out).mono ?_;rintro e w1 ⟨rfl,hb1⟩;have HB1:=hQz (HB0.out.trans (hb1.mono HB0.out.size));clear hb1;go_wp2_with fail;go_ret;exact ⟨by rw [HT.out];rfl,HB1.out⟩
 have b3:(aop==3)=false:=by rw [bqZ];exact k3
 have HT:Hid (R=r3):=HR.out.symm.trans (by rw [if_neg (fun h=>k8 h.1),if_neg (fun h=>k3 h.1)]);clear HR HO H8 k8 k3;go_enter Tryz.func52,Tryz.ntmps52;go_wp2_with fail;refine (HF.out _ HB0.out).mono ?_;rintro e w1 ⟨rfl,hb1⟩;have HB1:=hQz (HB0.out.trans (hb1.mono HB0.out.size));clear hb1;go_wp2_with fail;go_ret;exact ⟨by rw [HT.out];rfl,HB1.out⟩
end Go.Proofs.YtbpopnafcpfifaaGreatDoor
namespace Go.Proofs.YtbpopnafcpfifaaGreatDoor
set_option maxRecDepth 100000
set_option maxHeartbeats 12800000
def FW (T:NT):Prop:=T.op≠0∧∀ (W:World) (h:Nat) (v:Value),InA W h T v→fpN h T=true
def isN (k:NT):Prop:=sq (noA k) (noA nn0)=true
theorem isN_op {k:NT} (h:isN k):k.op=0:=by
 have:=q2q.1 h;have:=(noA_eq.1 this).1;exact this
theorem FW.op {k:NT} (h:FW k):k.op≠0:=h.1
theorem FW.isN {k:NT} (h:FW k):¬ isN k:=fun e=>h.op (isN_op e)
def KO (op:Int) (ks:List NT) (i:Nat) (k:NT):Prop:=(op=8∧0<i∧isN k∧¬ isN (ks.getD (3-i) nn0))∨((op=3→i%2=0→k.op=2∧k.value.kind=4)∧FW k)
theorem FW.mk {op at_:Int} {tx:ByteArray} {V:VT} {ns:List ByteArray} {ks:List NT} (h1:mfB op (ks.length:Int)=true) (h2:ttB op tx=true) (h3:∀ h,vfB (h+1) op V=true) (h4:nsB op ns=true) (hk:∀ i,(hi:i<ks.length)→KO op ks i ks[i]):FW (.mk op at_ tx V ns ks):=by
 refine ⟨fun e=> ?_,fun W h v hA=> ?_⟩
 · have e:op=0:=e;subst e;simp [mfB] at h1
 cases h with
 | zero=>exact hA.elim
 | succ h=>
 have hkid:∀ i,(hi:i<ks.length)→∃ v,InA W h ks[i] v:=fun i hi=>by
  obtain ⟨_,_,_,_,_,_,_,_,_,_,_,_,_,_,hk⟩:=hA;obtain ⟨b,off,_,_,_,hc⟩:=hk (show 0<ks.length by omega);obtain ⟨c,_,h2⟩:=hc i hi;exact ⟨_,h2⟩
 have h1':mfB (NT.mk op at_ tx V ns ks).op ((NT.mk op at_ tx V ns ks).kids.length:Int)=true:=h1;have h2':ttB (NT.mk op at_ tx V ns ks).op (NT.mk op at_ tx V ns ks).text=true:=h2;have h3':vfB (h+1) (NT.mk op at_ tx V ns ks).op (NT.mk op at_ tx V ns ks).value=true:=h3 h;have h4':nsB (NT.mk op at_ tx V ns ks).op (NT.mk op at_ tx V ns ks).names=true:=h4;rw [fpN,h1',h2',h3',h4',Bool.true_and,Bool.and_true,Bool.and_true,Bool.and_true];refine List.all_eq_true.2 fun i hi=> ?_;have hi:i<ks.length:=List.mem_range.1 hi;show kfB (fpN h) op ks i (ks.getD i nn0)=true;rw [getD_kid hi];obtain ⟨u,hu⟩:=hkid i hi;unfold kfB;rcases hk i hi with ⟨a1,a2,a3,a4⟩|⟨a1,a2⟩
 · rw [if_pos ⟨a1,a2,a3⟩]
   cases hb:sq (noA (ks.getD (3-i) nn0)) (noA nn0) with
   | false=>rfl
   | true=>exact absurd hb a4
 · rw [if_neg (fun e=>a2.isN e.2.2)];by_cases hc:op=3∧i%2=0
   · rw [if_pos hc,decide_eq_true (a1 hc.1 hc.2).1,decide_eq_true (a1 hc.1 hc.2).2,a2.2 W h u hu];rfl
   · rw [if_neg hc];exact a2.2 W h u hu
theorem vf_no {op:Int} (h:op≠2) (n:Nat):vfB n op vtN=true:=by
 unfold vfB;rw [if_neg h];exact q2q.2 rfl
theorem tt_no {op:Int} (h:nmO op=false):ttB op .empty=true:=by
 unfold ttB;rw [h];rfl
theorem ns_no {op:Int} (h:op≠32):nsB op []=true:=by
 unfold nsB;rw [if_neg h];rfl
def AllW (ks:List NT):Prop:=∀ k∈ks,FW k
theorem AllW.nil:AllW []:=fun k h=>by cases h
theorem AllW.app {a b:List NT} (ha:AllW a) (hb:AllW b):AllW (a++b):=fun k h=>(List.mem_append.1 h).elim (ha k) (hb k)
theorem AllW.one {a:NT} (h:FW a):AllW [a]:=fun k hk=>by rw [List.mem_singleton.1 hk];exact h
theorem AllW.two {a b:NT} (h:FW a) (h2:FW b):AllW [a,b]:=AllW.app (AllW.one h) (AllW.one h2)
theorem AllW.ko {op:Int} {ks:List NT} (h:AllW ks) (h3:op≠3):∀ i,(hi:i<ks.length)→KO op ks i ks[i]:=fun i hi=> .inr ⟨fun e=>absurd e h3,h _ (List.getElem_mem hi)⟩
theorem FW.nd {op:Int} {p:Nat} {ks:List NT} (h1:mfB op (ks.length:Int)=true) (h2:op≠2) (h3:op≠3) (h4:nmO op=false) (h5:op≠32) (hk:AllW ks):FW (ndP op p ks):=
 FW.mk h1 (tt_no h4) (fun h=>vf_no h2 _) (ns_no h5) (hk.ko h3)
theorem FW.tx {op:Int} {p:Nat} {x:List UInt8} {ks:List NT} (h1:mfB op (ks.length:Int)=true) (h2:op≠2) (h3:op≠3) (h4:nmO op=true) (h5:op≠32) (hx:q0r x=true) (hk:AllW ks):FW (txP op p x ks):=
 FW.mk h1 (by unfold ttB;rw [if_pos h4];exact hx) (fun h=>vf_no h2 _) (ns_no h5) (hk.ko h3)
theorem FW.cn {p:Nat} {V:VT} (h:∀ h,vfB (h+1) 2 V=true):FW (cnP p V):=
 FW.mk (by decide) (tt_no (by decide)) h (ns_no (by decide)) (fun i hi=>by cases hi)
theorem FW.said {x:Tok} (h:okB x.text=true):FW (q0m x):=by
 refine FW.cn fun n=> ?_;show vfB (n+1) 2 (.mk 4 .empty ⟨x.text.toArray⟩ [] [])=true;unfold vfB;rw [if_pos rfl,if_pos (.inr (.inr (.inr rfl)))];show (okB x.text&&q1G .empty .empty 0 0)=true;rw [h,show q1G .empty .empty 0 0=true by unfold q1G;rw [Lib.toList_data];rfl];rfl
theorem FW.num {p:Nat} {x:List UInt8} (h:Pl.formed x=true) (h2:0≤Pl.cmpN x [48]):FW (cnP p (.mk 3 ⟨x.toArray⟩ .empty [] [])):=by
 refine FW.cn fun n=> ?_;unfold vfB;rw [if_pos rfl,if_neg (by show ¬ ((3:Int)=0∨(3:Int)=1∨(3:Int)=2∨(3:Int)=4);omega),if_pos (show (VT.mk 3 ⟨x.toArray⟩ .empty [] []).kind=3 from rfl)];have h3:decide (0≤Pl.cmpN (VT.mk 3 ⟨x.toArray⟩ .empty [] []).num.data.toList [48])=true:=decide_eq_true h2;rw [h3,Bool.and_true];show (Pl.formed x&&q1G .empty .empty 0 0)=true;rw [h,show q1G .empty .empty 0 0=true by unfold q1G;rw [Lib.toList_data];rfl];rfl
theorem FW.leaf {p:Nat} {k:Int} (hk:k=0∨k=1∨k=2):FW (cnP p (.mk k .empty .empty [] [])):=by
 refine FW.cn fun n=> ?_;unfold vfB;rw [if_pos rfl];have hb:q1G .empty .empty 0 0=true:=by unfold q1G;rw [Lib.toList_data];rfl
 rcases hk with rfl|rfl|rfl
 · rw [if_pos (.inl rfl)];exact hb
 · rw [if_pos (.inr (.inl rfl))];exact hb
 · rw [if_pos (.inr (.inr (.inl rfl)))];exact hb
theorem FW.self {p:Nat}:FW (q22 p):=FW.nd (by decide) (by decide) (by decide) (by decide) (by decide) AllW.nil
theorem FW.idx {p:Nat} {a b:NT} (h:FW a) (h2:FW b):FW (idxP p a b):=FW.nd (show mfB 7 2=true by decide) (by decide) (by decide) (by decide) (by decide) (AllW.two h h2)
theorem FW.fld {x:Tok} (h:okB x.text=true):FW (fldP x):=FW.idx FW.self (FW.said h)
theorem FW.var {x:Tok} (h:q0r x.text=true):FW (varP x):=FW.tx (by decide) (by decide) (by decide) (by decide) (by decide) h AllW.nil
def WtW (s:NT):Prop:=∀ k,FW k→FW (addK s k)
theorem q2j:∀ {ws:List NT} {k:NT},(∀ s∈ws,WtW s)→FW k→FW (q0p ws k)
 | [],k,_,h=>h
 | s::ws,k,hs,h=>hs s (List.mem_cons_self ..) _ (q2j (fun s hs'=>hs s (List.mem_cons_of_mem _ hs')) h)
theorem WtW.nd {op:Int} {p:Nat} {ks:List NT} (h1:mfB op ((ks.length+1:Nat):Int)=true) (h2:op≠2) (h3:op≠3) (h4:nmO op=false) (h5:op≠32) (hk:AllW ks):WtW (ndP op p ks):=fun k h=>
 FW.nd (p:=p) (by rw [List.length_append];exact h1) h2 h3 h4 h5 (hk.app (AllW.one h))
theorem WtW.tx {op:Int} {p:Nat} {x:List UInt8} {ks:List NT} (h1:mfB op ((ks.length+1:Nat):Int)=true) (h2:op≠2) (h3:op≠3) (h4:nmO op=true) (h5:op≠32) (hx:q0r x=true) (hk:AllW ks):WtW (txP op p x ks):=fun k h=>
 FW.tx (p:=p) (by rw [List.length_append];exact h1) h2 h3 h4 h5 hx (hk.app (AllW.one h))
def AllT (ss:List NT):Prop:=∀ s∈ss,WtW s
theorem AllT.nil:AllT []:=fun k h=>by cases h
theorem AllT.snoc {ss:List NT} {s:NT} (h:AllT ss) (h2:WtW s):AllT (ss++[s]):=fun k hk=>(List.mem_append.1 hk).elim (h k) fun h3=>by rw [List.mem_singleton.1 h3];exact h2
structure TG (nb:Nat) (x:Tok):Prop where
 pl:x.kind=1∨x.kind=3→q0r x.text=true
 ok:x.kind≠5→okB x.text=true
 nu:x.kind=5→Pl.formed x.text=true∧0≤Pl.cmpN x.text [48]
 at_:x.at_≤nb
def QV {α:Type} (nb:Nat) (Q: α→Prop) (r:Pr α):Prop:=match r with
 | .ok p _ _=>Q p
 | .bad _ z=>z≤nb
def QM {α:Type} (nb:Nat) (Q: α→Prop) (x:PM α):Prop:=∀ t o,QV nb Q (x t o)
def Els {α β:Type} (R: α→Prop) (S: β→Prop): α ⊕ β→Prop
 | .inl a=>R a
 | .inr b=>S b
section
variable {nb:Nat} {α β γ:Type} {Q: α→Prop} {R: β→Prop} {S: γ→Prop}
theorem QV.then_ {x:PM α} {f: α→PM β} {t o:Nat} (h:QV nb Q (x t o)) (hf:∀ p,Q p→QM nb R (f p)):QV nb R (q07 x f t o):=by
 unfold q07
 cases hx:x t o with
 | ok p t' o'=>rw [hx] at h;exact hf p h t' o'
 | bad e z=>rw [hx] at h;exact h
theorem QM.then_ {x:PM α} {f: α→PM β} (h:QM nb Q x) (hf:∀ p,Q p→QM nb R (f p)):QM nb R (q07 x f):=fun t o=>QV.then_ (h t o) hf
theorem QM.ok {p: α} (h:Q p):QM nb Q (pOk p):=fun _ _=>h
theorem QV.ite {c:Prop} [Decidable c] {A B:Pr α} (h1:c→QV nb Q A) (h2:¬ c→QV nb Q B):QV nb Q (if c then A else B):=by
 by_cases h:c
 · rw [if_pos h];exact h1 h
 · rw [if_neg h];exact h2 h
theorem QM.itm {c:Prop} [Decidable c] {A B:PM α} (h1:c→QM nb Q A) (h2:¬ c→QM nb Q B):QM nb Q (if c then A else B):=by
 by_cases h:c
 · rw [if_pos h];exact h1 h
 · rw [if_neg h];exact h2 h
theorem QM.loop {body: α→PM (α ⊕ γ)} (hb:∀ p,Q p→QM nb (Els Q S) (body p)):∀ (f:Nat) (p: α),Q p→QM nb S (lpP body f p)
 | 0,p,_=>fun t o=>Nat.zero_le _
 | f+1,p,hp=>by
  rw [lpP];refine QM.then_ (hb p hp) fun r hr=> ?_
  match r,hr with
  | .inl a,h=>exact QM.loop hb f a h
  | .inr b,h=>exact QM.ok h
end
section
variable {ws:List Tok} {nb:Nat} {P:PM NT} {O:Nat→PM NT}
def GW (ws:List Tok) (nb:Nat):Prop:=∀ t,TG nb (hrP ws t)
theorem q_ft {α:Type} {Q: α→Prop} (G:GW ws nb):QM nb Q (pFt ws nb):=fun t o=>by
 show ftQ ws nb t≤nb;unfold ftQ
 split
 · exact Nat.le_refl _
 · exact (G t).at_
theorem q2a (G:GW ws nb):QM nb (TG nb) (q0E ws):=fun t o=>G t
theorem q2p (G:GW ws nb) (s:List UInt8):QM nb (TG nb) (q19 ws nb s):=fun t o=>QV.ite (fun _=>q2a G t o) fun _=>q_ft G t o
theorem q_be (G:GW ws nb) (k:Nat):QM nb (fun x=>TG nb x∧x.kind=k) (pBe ws nb k):=fun t o=>QV.ite (fun h=>⟨G t,eq_of_beq h⟩) fun _=>q_ft G t o
theorem q_open (G:GW ws nb):QM nb (TG nb) (q24 ws):=fun t o=>QV.ite (fun _=>(G t).at_) fun _=>G t
theorem q26 (G:GW ws nb) (s:List UInt8):QM nb (TG nb) (q13 ws nb s):=fun t o=>QV.ite (fun _=>q_open G t o) fun _=>q_ft G t o
theorem q1s (G:GW ws nb) (s:List UInt8):QM nb (fun _=>True) (q0F ws nb s):=QM.then_ (q2p G s) fun _ _ _ _=>trivial
theorem q_group (G:GW ws nb) (hP:QM nb FW P):QM nb FW (q1O ws nb P):=QM.then_ (q26 G _) fun _ _=>QM.then_ hP fun n hn=>QM.then_ (q1s G _) fun _ _=>QM.ok hn
theorem q_list (G:GW ws nb) (hP:QM nb FW P):QM nb FW (listP ws nb P):=by
 refine QM.then_ (q26 G _) fun x _=>QM.then_ (Q:=fun ks=>AllW ks∧ks.length≤1) (fun t o=> ?_) fun ks hk=>QM.then_ (q1s G _) fun _ _=>QM.ok ?_
 · exact QV.ite (fun _=>⟨AllW.nil,Nat.zero_le _⟩) fun _=>QV.then_ (hP t o) fun n hn=>QM.ok ⟨AllW.one hn,Nat.le_refl _⟩
 · refine FW.nd ?_ (by decide) (by decide) (by decide) (by decide) hk.1;have e:mfB 4 (ks.length:Int)=decide ((ks.length:Int)≤1):=by simp [mfB]
   rw [e];exact decide_eq_true (by have:=hk.2;omega)
def Turn (ks:List NT):Prop:=ks.length%2=0∧AllW ks∧∀ i,(hi:i<ks.length)→i%2=0→(ks[i]).op=2∧(ks[i]).value.kind=4
theorem Turn.two {ks:List NT} {x:Tok} {n:NT} (h:Turn ks) (hx:okB x.text=true) (hn:FW n):Turn (ks++[q0m x,n]):=by
 obtain ⟨h1,h2,h3⟩:=h;refine ⟨by rw [List.length_append];show (ks.length+2)%2=0;omega,h2.app (AllW.two (FW.said hx) hn),fun i hi hi2=> ?_⟩;rw [List.length_append] at hi;have hi:i<ks.length+2:=hi;by_cases hc:i<ks.length
 · rw [List.getElem_append_left hc];exact h3 i hc hi2
 · have hi3:i=ks.length:=by omega
   subst hi3;rw [List.getElem_append_right (Nat.le_refl _)];simp only [Nat.sub_self,List.getElem_cons_zero];exact ⟨rfl,rfl⟩
theorem q_text (G:GW ws nb) (hP:QM nb FW P):QM nb FW (q1K ws nb P):=by
 intro t o;unfold q1K;refine QV.ite (fun hc=> ?_) fun _=>QV.ite (fun hc=> ?_) fun _=>q_ft G t o
 · exact (show FW (q0m (hrP ws t)) from FW.said ((G t).ok (by have:=eq_of_beq hc;omega)))
 · have hk7:(hrP ws t).kind=7:=eq_of_beq hc;refine QV.then_ (Q:=fun x=>TG nb x∧x.kind≠5) (QV.ite (fun _=>(G t).at_) fun _=>⟨G t,by rw [hk7];decide⟩) fun x0 h0=> ?_;refine QM.then_ (Q:=fun ks=>Turn ks∧0<ks.length) (QM.loop (Q:=fun a:List NT × Tok=>Turn a.1∧okB a.2.text=true) (fun a ha=> ?_) _ _ ⟨⟨rfl,AllW.nil,fun i hi=>by cases hi⟩,h0.1.ok h0.2⟩) fun ks hk=> ?_
   · refine QM.then_ hP fun n hn t o=> ?_;have h2:=ha.1.two ha.2 hn;refine QV.ite (fun hc=> ?_) fun _=>⟨h2,by rw [List.length_append];show 0<_+2;omega⟩;exact ⟨h2,(G t).ok (by have:=eq_of_beq hc;omega)⟩
   · refine QM.then_ (q_be G 9) fun x hx t o=> ?_;obtain ⟨⟨k1,k2,k3⟩,k4⟩:=hk;have hxo:=hx.1.ok (by rw [hx.2];decide);have hall:=k2.app (AllW.one (FW.said hxo));show FW (ndP 3 x0.at_ (ks++[q0m x]));refine FW.mk ?_ (tt_no (by decide)) (fun h=>vf_no (by decide) _) (ns_no (by decide)) fun i hi=> .inr ⟨fun _ hi2=> ?_,hall _ (List.getElem_mem hi)⟩
     · have e:mfB 3 (((ks++[q0m x]).length:Nat):Int)=(decide (3≤(((ks++[q0m x]).length:Nat):Int))&&((((ks++[q0m x]).length:Nat):Int)%2==1)):=by simp [mfB]
       rw [e,Bool.and_eq_true,decide_eq_true_iff,beq_iff_eq,List.length_append];show (3:Int)≤((ks.length+1:Nat):Int)∧((ks.length+1:Nat):Int)%2=1;omega
     · rw [List.length_append] at hi;have hi:i<ks.length+1:=hi;by_cases hc:i<ks.length
       · rw [List.getElem_append_left hc];exact k3 i hc hi2
       · have hi3:i=ks.length:=by omega
         subst hi3;rw [List.getElem_append_right (Nat.le_refl _)];simp only [Nat.sub_self,List.getElem_cons_zero];exact ⟨rfl,rfl⟩
theorem q_pipes (G:GW ws nb) (hP:QM nb FW P) {ks:List NT} (hk:AllW ks) (least most:Nat) (hm:1≤least∧least≤most):QM nb (fun l=>AllW l∧ks.length+least≤l.length∧l.length≤ks.length+most) (q1C ws nb P ks least most):=by
 unfold q1C;refine QM.then_ (q26 G _) fun _ _=>QM.then_ hP fun n hn=>QM.then_ (Q:=fun l=>AllW l∧ks.length+least≤l.length∧l.length≤ks.length+most) (QM.loop (Q:=fun a:Nat × List NT=>AllW a.2∧a.2.length=ks.length+a.1∧a.1≤most) (fun a ha t o=> ?_) _ _ ⟨hk.app (AllW.one hn),by simp,by show 1≤most;omega⟩) fun l hl=>QM.then_ (q1s G _) fun _ _=>QM.ok hl;obtain ⟨h1,h2,h3⟩:=ha;refine QV.ite (fun hc=>QV.ite (fun hc2=>⟨h1,by omega,by omega⟩) fun _=> ?_) fun hc=>⟨h1,by omega,by omega⟩;exact QV.then_ (q2p G _ t o) fun _ _=>QM.then_ hP fun k hk2=>QM.ok ⟨h1.app (AllW.one hk2),by simp;omega,by show a.1+1≤most;omega⟩
theorem q_branch (G:GW ws nb) (hP:QM nb FW P) (p:Nat):QM nb WtW (q1y ws nb P p):=
 QM.then_ hP fun c hc=>QM.then_ (q2p G _) fun _ _=>QM.then_ hP fun n hn=>QM.ok (WtW.nd (show mfB 28 3=true by decide) (by decide) (by decide) (by decide) (by decide) (AllW.two hc hn))
theorem q_choice (G:GW ws nb) (hP:QM nb FW P):QM nb FW (q1d ws nb P):=by
 unfold q1d;refine QM.then_ (q26 G _) fun x _=>QM.then_ (q_branch G hP _) fun b hb=>QM.then_ (QM.loop (Q:=AllT) (S:=AllT) (fun a ha t o=> ?_) _ _ (AllT.nil.snoc hb)) fun bs hbs=>QM.then_ (Q:=FW) (fun t o=> ?_) fun n hn=>QM.then_ (q1s G _) fun _ _=>QM.ok (q2j hbs hn)
 · exact QV.ite (fun _=>QV.then_ (q2a G t o) fun y _=>QM.then_ (q_branch G hP _) fun b hb=>QM.ok (ha.snoc hb)) fun _=>ha
 · exact QV.ite (fun _=>QV.then_ (q2a G t o) fun _ _=>hP) fun _=>FW.self
def EvW (ks:List NT):Prop:=AllW ks∧ks.length%2=0
theorem EvW.two {ks:List NT} {a b:NT} (h:EvW ks) (ha:FW a) (hb:FW b):EvW (ks++[a,b]):=⟨h.1.app (AllW.two ha hb),by rw [List.length_append];show (ks.length+2)%2=0;have:=h.2;omega⟩
theorem q_entry (G:GW ws nb) (hP:QM nb FW P) (hO:∀ l,1≤l→QM nb FW (O l)) {ks:List NT} (hk:EvW ks):QM nb EvW (q1a ws nb P O ks):=fun t o=>by
 unfold q1a;dsimp only;refine QV.ite (fun hc=> ?_) fun _=> ?_
 · have h5:(hrP ws t).kind≠5:=by omega
   have hs:=FW.said ((G t).ok h5);refine QV.ite (fun _=>QV.then_ (q2p G _ _ _) fun _ _=>QM.then_ (hO 3 (by decide)) fun n hn=>QM.ok (hk.two hs hn)) fun _=> ?_;refine hk.two hs ?_;by_cases h3:(hrP ws t).kind=3
   · rw [if_pos h3];exact FW.var ((G t).pl (.inr h3))
   · rw [if_neg h3];exact FW.fld ((G t).ok h5)
 · refine QV.then_ (Q:=FW) ?_ fun k hk2=>QM.then_ (q2p G _) fun _ _=>QM.then_ (hO 3 (by decide)) fun n hn=>QM.ok (hk.two hk2 hn)
   split
   · exact q_text G hP t o
   · exact q_group G hP t o
theorem q_record (G:GW ws nb) (hP:QM nb FW P) (hO:∀ l,1≤l→QM nb FW (O l)):QM nb FW (q1e ws nb P O):=by
 unfold q1e;have h0:EvW []:=⟨AllW.nil,rfl⟩;refine QM.then_ (q26 G _) fun x _=>QM.then_ (Q:=EvW) (fun t o=> ?_) fun ks hk=>QM.then_ (q1s G _) fun _ _=>QM.ok ?_
 · refine QV.ite (fun _=>h0) fun _=>QV.then_ (q_entry G hP hO h0 t o) fun ks hk=>QM.loop (Q:=EvW) (S:=EvW) (fun a ha t o=> ?_) _ _ hk;exact QV.ite (fun _=>QV.then_ (q2a G t o) fun _ _=>QM.then_ (q_entry G hP hO ha) fun b hb=>QM.ok hb) fun _=>ha
 · refine FW.nd ?_ (by decide) (by decide) (by decide) (by decide) hk.1;have e:mfB 5 (ks.length:Int)=((ks.length:Int)%2==0):=by simp [mfB]
   rw [e,beq_iff_eq];have:=hk.2;omega
theorem q_call (G:GW ws nb) (hP:QM nb FW P) {t o:Nat} (h1:(hrP ws t).kind=1):QV nb FW (callP ws nb P t o):=by
 unfold callP;refine QV.then_ (Q:=fun x=>q0r x.text=true) (x:=q0E ws) (show QV nb (fun x:Tok=>q0r x.text=true) (q0E ws t o) from (G t).pl (.inl h1)) fun x hx t o=> ?_;have h33:∀ m,mfB 33 m=true:=fun m=>by simp [mfB]
 exact QV.ite (fun _=>QV.then_ (q_pipes G hP AllW.nil 1 _ (by decide) t o) fun ks hk=>QM.ok (FW.tx (h33 _) (by decide) (by decide) (by decide) (by decide) hx hk.1)) fun _=>FW.tx (h33 _) (by decide) (by decide) (by decide) (by decide) hx AllW.nil
theorem q_term (G:GW ws nb) (hP:QM nb FW P) (hO:∀ l,1≤l→QM nb FW (O l)):QM nb FW (q20 ws nb P O):=fun t o=>by
 unfold q20;dsimp only;refine QV.ite (fun _=> ?_) fun _=> ?_
 · refine QV.ite (fun _=>QV.then_ (q2a G t o) fun x _ t o=>QV.ite (fun _=>QV.then_ (q_text G hP t o) fun k hk=>QM.ok (FW.idx FW.self hk)) fun _=>FW.self) fun _=> ?_;refine QV.ite (fun _=>FW.tx (by decide) (by decide) (by decide) (by decide) (by decide) (by decide) AllW.nil) fun _=> ?_;refine QV.ite (fun _=>q_group G hP t o) fun _=> ?_;refine QV.ite (fun _=>q_list G hP t o) fun _=> ?_;exact QV.ite (fun _=>q_record G hP hO t o) fun _=>q_ft G t o
 refine QV.ite (fun _=> ?_) fun _=> ?_
 · refine QV.ite (fun _=>FW.leaf (.inl rfl)) fun _=> ?_;refine QV.ite (fun _=>FW.leaf (.inr (.inr rfl))) fun _=> ?_;refine QV.ite (fun _=>FW.leaf (.inr (.inl rfl))) fun _=> ?_;refine QV.ite (fun _=>q_choice G hP t o) fun _=> ?_;exact QV.ite (fun _=>QV.then_ (q2a G t o) fun _ _=>QM.then_ (q_be G 3) fun y hy=>QM.ok (FW.tx (by decide) (by decide) (by decide) (by decide) (by decide) (hy.1.pl (.inr hy.2)) AllW.nil)) fun _=>q_ft G t o
 refine QV.ite (fun hc=>FW.fld ((G t).ok (by omega))) fun _=> ?_;refine QV.ite (fun hc=>FW.num ((G t).nu hc).1 ((G t).nu hc).2) fun _=> ?_;refine QV.ite (fun _=>q_text G hP t o) fun _=> ?_;refine QV.ite (fun hc=>FW.var ((G t).pl (.inr hc))) fun _=> ?_;exact QV.ite (fun hc=>q_call G hP hc) fun _=>q_ft G t o
theorem isN_none:isN (ndP 0 0 []):=q2q.2 rfl
theorem FW.slice {p:Nat} {a b c:NT} (ha:FW a) (hb:FW b∨(b=ndP 0 0 []∧FW c)) (hc:FW c∨(c=ndP 0 0 []∧FW b)):FW (ndP 8 p [a,b,c]):=by
 refine FW.mk (show mfB 8 3=true by decide) (tt_no (by decide)) (fun h=>vf_no (by decide) _) (ns_no (by decide)) fun i hi=> ?_;have hi:i<3:=hi
 match i,hi with
 | 0,_=>exact .inr ⟨fun e=>absurd e (by decide),ha⟩
 | 1,_=>
  rcases hb with hb|⟨rfl,hb⟩
  · exact .inr ⟨fun e=>absurd e (by decide),hb⟩
  · exact .inl ⟨rfl,by decide,isN_none,hb.isN⟩
 | 2,_=>
  rcases hc with hc|⟨rfl,hc⟩
  · exact .inr ⟨fun e=>absurd e (by decide),hc⟩
  · exact .inl ⟨rfl,by decide,isN_none,hc.isN⟩
theorem q_bracket (G:GW ws nb) (hP:QM nb FW P) {A:NT} (hA:FW A):QM nb FW (q15 ws nb P A):=by
 unfold q15;refine QM.then_ (q26 G _) fun x _ t o=> ?_;refine QV.ite (fun _=>QV.then_ (q1s G _ t o) fun _ _=>QM.ok (FW.nd (show mfB 9 1=true by decide) (by decide) (by decide) (by decide) (by decide) (AllW.one hA))) fun _=> ?_;refine QV.ite (fun _=>QV.then_ (q2a G t o) fun _ _=>QM.then_ hP fun n hn=>QM.then_ (q1s G _) fun _ _=>QM.ok (FW.slice hA (.inr ⟨rfl,hn⟩) (.inl hn))) fun _=> ?_;refine QV.then_ (hP t o) fun m hm t o=> ?_;refine QV.ite (fun _=>QV.then_ (q1s G _ t o) fun _ _=>QM.ok (FW.idx hA hm)) fun _=> ?_;refine QV.then_ (q2p G _ t o) fun _ _ t o=> ?_;exact QV.ite (fun _=>QV.then_ (q1s G _ t o) fun _ _=>QM.ok (FW.slice hA (.inl hm) (.inr ⟨rfl,hm⟩))) fun _=>QV.then_ (hP t o) fun n hn=>QM.then_ (q1s G _) fun _ _=>QM.ok (FW.slice hA (.inl hm) (.inl hn))
theorem q_suffixed (G:GW ws nb) (hP:QM nb FW P) {A:NT} (hA:FW A):QM nb FW (q0s ws nb P A):=by
 unfold q0s;refine QM.loop (Q:=FW) (fun a ha t o=> ?_) _ _ hA;refine QV.ite (fun hc=>FW.idx ha (FW.said ((G t).ok (by have:=eq_of_beq hc;omega)))) fun _=> ?_;refine QV.ite (fun _=>QV.then_ (q2a G t o) fun x _=>QM.then_ (q_text G hP) fun k hk=>QM.ok (FW.idx ha hk)) fun _=> ?_;refine QV.ite (fun _=>QV.then_ (q_bracket G hP ha t o) fun n hn=>QM.ok hn) fun _=> ?_;exact QV.ite (fun _=>(FW.nd (show mfB 10 1=true by decide) (by decide) (by decide) (by decide) (by decide) (AllW.one ha):FW (ndP 10 _ [a]))) fun _=>ha
def PoW (s:NT):Prop:=s.text= .empty∧s.value=vtN∧s.names=[]∧AllW s.kids∧((s.op=10∧s.kids.length≤1)∨((s.op=30∨s.op=31)∧s.kids=[]))
theorem await_w {t:Nat} {A:NT} (h:q0U ws t=some A):PoW A:=by
 unfold q0U at h;dsimp only at h
 split at h
 · injection h with h;subst h;exact ⟨rfl,rfl,rfl,AllW.nil,.inl ⟨rfl,Nat.zero_le _⟩⟩
 · split at h
   · injection h with h;subst h;exact ⟨rfl,rfl,rfl,AllW.nil,.inr ⟨.inl rfl,rfl⟩⟩
   · split at h
     · injection h with h;subst h;exact ⟨rfl,rfl,rfl,AllW.nil,.inr ⟨.inr rfl,rfl⟩⟩
     · cases h
theorem q_finished (G:GW ws nb) (hP:QM nb FW P) {s k:NT} (hs:PoW s) (hk:FW k) (hc:s.op=10→s.kids.length≤1):QM nb FW (q0i ws nb P (addK s k)):=by
 obtain ⟨op,at_,tx,V,ns,ks⟩:=s;obtain ⟨g1,g2,g3,g4,g5⟩:=hs;have h1:tx= .empty:=g1;have h2:V=vtN:=g2;have h3:ns=[]:=g3;have h4:AllW ks:=g4;have h5:(op=10∧ks.length≤1)∨((op=30∨op=31)∧ks=[]):=g5;clear g1 g2 g3 g4 g5 hc;subst h1 h2 h3;unfold q0i;refine QM.itm (fun hc=> ?_) fun hc=> ?_
 · have hc:op=30∨op=31:=hc
   have hks:ks=[]:=by
    rcases h5 with ⟨h5,_⟩|h5
    · rw [h5] at hc;exact absurd hc (by decide)
    · exact h5.2
   subst hks;refine QM.then_ (q2p G _) fun _ _=>QM.then_ (q_be G 3) fun x hx=> ?_;have hpl:=hx.1.pl (.inr hx.2);rcases hc with rfl|rfl
   · refine QM.then_ (q_pipes G hP (ks:=[k]) (AllW.one hk) 2 2 (by decide)) fun l hl=>QM.ok ?_;have hl3:l.length=3:=by have:=hl.2;simp at this;omega
     show FW (.mk 30 at_ ⟨x.text.toArray⟩ vtN [] l);exact FW.mk (by rw [hl3];decide) (by unfold ttB;rw [if_pos (by decide)];exact hpl) (fun h=>vf_no (by decide) _) (ns_no (by decide)) (hl.1.ko (by decide))
   · refine QM.then_ (q_pipes G hP (ks:=[k]) (AllW.one hk) 2 3 (by decide)) fun l hl=>QM.ok ?_;have hl3:l.length=3∨l.length=4:=by have:=hl.2;simp at this;omega
     show FW (.mk 31 at_ ⟨x.text.toArray⟩ vtN [] l);refine FW.mk ?_ (by unfold ttB;rw [if_pos (by decide)];exact hpl) (fun h=>vf_no (by decide) _) (ns_no (by decide)) (hl.1.ko (by decide));rcases hl3 with e|e <;> rw [e] <;> decide
 · have hc:¬ (op=30∨op=31):=hc;rcases h5 with ⟨rfl,h5⟩|h5
   · refine QM.ok ?_;show FW (.mk 10 at_ .empty vtN [] (ks++[k]));refine FW.mk ?_ (tt_no (by decide)) (fun h=>vf_no (by decide) _) (ns_no (by decide)) ((h4.app (AllW.one hk)).ko (by decide));rw [List.length_append];show mfB 10 ((ks.length+1:Nat):Int)=true;rcases (show ks.length=0∨ks.length=1 by omega) with e|e <;> rw [e] <;> decide
   · exact absurd h5.1 hc
def AllP (ss:List NT):Prop:=∀ s∈ss,PoW s
theorem q_unwind (G:GW ws nb) (hP:QM nb FW P):∀ (l:List NT) {k:NT},AllP l→FW k→QM nb (Els AllP FW) (q0D ws nb P l k)
 | [],k,_,hk=>QM.ok hk
 | s::rest,k,hl,hk=>fun t o=>by
  have hs:=hl s (List.mem_cons_self ..);have hr:AllP rest:=fun x hx=>hl x (List.mem_cons_of_mem _ hx);rw [q0D];refine QV.ite (fun hc=> ?_) fun _=> ?_
  · show AllP (addK s k::rest);intro x hx;rcases List.mem_cons.1 hx with rfl|hx
    · obtain ⟨h1,h2,h3,h4,h5⟩:=hs;exact ⟨h1,h2,h3,h4.app (AllW.one hk),.inl ⟨hc.1,by rw [hc.2.1];exact Nat.le_refl _⟩⟩
    · exact hr x hx
  · refine QV.then_ (q_finished G hP hs hk (fun h=> ?_) t o) fun B hB=>QM.then_ (q_suffixed G hP hB) fun C hC=>q_unwind G hP rest hr hC;obtain ⟨_,_,_,_,h5⟩:=hs;rcases h5 with h5|h5
    · exact h5.2
    · rw [h5.2];exact Nat.zero_le _
theorem q_post (G:GW ws nb) (hP:QM nb FW P) (hO:∀ l,1≤l→QM nb FW (O l)):QM nb FW (postP ws nb P O):=by
 unfold postP;refine QM.loop (Q:=AllP) (fun a ha=> ?_) _ _ (fun s hs=>by cases hs);refine QM.then_ (QM.loop (Q:=AllP) (S:=AllP) (fun b hb t o=> ?_) _ _ ha) fun b hb=>QM.then_ (q_term G hP hO) fun n hn=>QM.then_ (q_suffixed G hP hn) fun m hm=>q_unwind G hP b hb hm
 cases hA:q0U ws t with
 | none=>exact hb
 | some A=>
  show AllP (A::b);intro x hx;rcases List.mem_cons.1 hx with rfl|hx
  · exact await_w hA
  · exact hb x hx
theorem q_unary (G:GW ws nb) (hP:QM nb FW P) (hO:∀ l,1≤l→QM nb FW (O l)):QM nb FW (q1I ws nb P O):=by
 unfold q1I;refine QM.then_ (QM.loop (Q:=AllT) (S:=AllT) (fun a ha t o=> ?_) _ _ AllT.nil) fun ss hss=>QM.then_ (q_post G hP hO) fun n hn=>QM.ok (q2j hss hn);exact QV.ite (fun _=>ha.snoc (WtW.nd (by decide) (by decide) (by decide) (by decide) (by decide) AllW.nil)) fun _=>ha
theorem op_tab:∀ r∈opTz,mfB (r.2.1:Int) 2=true∧(r.2.1:Int)≠2∧(r.2.1:Int)≠3∧nmO (r.2.1:Int)=false∧(r.2.1:Int)≠32:=by decide
theorem opz_w {t:Nat} (h:(opZ ws t).2.2.1≠0):mfB ((opZ ws t).2.1:Int) 2=true∧((opZ ws t).2.1:Int)≠2∧((opZ ws t).2.1:Int)≠3∧nmO ((opZ ws t).2.1:Int)=false∧((opZ ws t).2.1:Int)≠32:=by
 unfold opZ at h ⊢;dsimp only at h ⊢;by_cases hc:(hrP ws t).kind=10∨(hrP ws t).kind=2
 · rw [if_pos hc] at h ⊢
   cases hf:opTz.find? (fun r=>r.1==(hrP ws t).text) with
   | none=>rw [hf] at h;exact absurd rfl h
   | some r=>
    exact op_tab r (List.mem_of_find?_eq_some hf)
 · rw [if_neg hc] at h;exact absurd rfl h
theorem q_behind (G:GW ws nb) (hO:∀ l,1≤l→QM nb FW (O l)) {least:Nat} (hl:1≤least) {A:NT} (hA:FW A):QM nb FW (q1f ws O least A):=by
 unfold q1f;refine QM.loop (Q:=fun a:List NT × NT × Nat=>AllT a.1∧FW a.2.1) (fun a ha t o=> ?_) _ _ ⟨AllT.nil,hA⟩;dsimp only;refine QV.ite (fun _=>q2j ha.1 ha.2) fun hc=> ?_;obtain ⟨o1,o2,o3,o4,o5⟩:=opz_w (ws:=ws) (t:=t) (by omega);refine QV.then_ (hO _ (by omega) _ _) fun n hn=>QM.itm (fun _=>QM.ok ⟨ha.1.snoc (WtW.nd o1 o2 o3 o4 o5 (AllW.one ha.2)),hn⟩) fun _=>QM.ok ⟨AllT.nil,FW.nd o1 o2 o3 o4 o5 (AllW.two (q2j ha.1 ha.2) hn)⟩
theorem pn_var {x:List UInt8} (h:q0r x=true):pnB ⟨(36::x).toArray⟩=true:=by
 unfold pnB;show q0r (Lib.trimPrefix (36::x) [36])=true
 have e:Lib.trimPrefix (36::x) [36]=x:=by
  unfold Lib.trimPrefix Lib.hasPrefix;rw [if_pos (by simp [List.isPrefixOf])];rfl
 rw [e];exact h
theorem pn_name {x:List UInt8} (h:q0r x=true):pnB ⟨x.toArray⟩=true:=by
 unfold pnB;show q0r (Lib.trimPrefix x [36])=true
 have e:Lib.trimPrefix x [36]=x:=by
  unfold Lib.trimPrefix Lib.hasPrefix;rw [if_neg];intro hc
  cases x with
  | nil=>simp [List.isPrefixOf] at hc
  | cons c r=>
   have h36:c=36:=by simp [List.isPrefixOf] at hc;exact hc.symm
   subst h36;unfold q0r namedB q0l at h;rw [Bool.and_eq_true,decide_eq_true_iff] at h;have:=h.1.2;rw [if_neg (fun e=>absurd e.2 (show ¬ leB 36=true by decide))] at this
   cases this
 rw [e];exact h
def AllN (l:List ByteArray):Prop:=∀ x∈l,pnB x=true
theorem AllN.snoc {l:List ByteArray} {x:ByteArray} (h:AllN l) (h2:pnB x=true):AllN (l++[x]):=fun k hk=>(List.mem_append.1 hk).elim (h k) fun h3=>by rw [List.mem_singleton.1 h3];exact h2
theorem q_param (G:GW ws nb):QM nb (fun x=>pnB x=true) (q1l ws nb):=fun t o=>
 QV.ite (fun hc=>pn_var ((G t).pl (.inr (eq_of_beq hc)))) fun _=>QV.then_ (q_be G 1 t o) fun x hx=>QM.ok (pn_name (hx.1.pl (.inl hx.2)))
theorem q_params (G:GW ws nb):QM nb AllN (q1r ws nb):=fun t o=>by
 have h0:AllN []:=fun x hx=>by cases hx
 unfold q1r;refine QV.ite (fun _=>QV.then_ (q26 G _ t o) fun _ _=>QM.then_ (q_param G) fun a ha=>QM.then_ (QM.loop (Q:=AllN) (S:=AllN) (fun l hl t o=> ?_) _ _ (h0.snoc ha)) fun l hl=>QM.then_ (q1s G _) fun _ _=>QM.ok hl) fun _=>h0;exact QV.ite (fun _=>QV.then_ (q2a G t o) fun _ _=>QM.then_ (q_param G) fun b hb=>QM.ok (hl.snoc hb)) fun _=>hl
theorem q_link (G:GW ws nb) (hP:QM nb FW P) (hO:∀ l,1≤l→QM nb FW (O l)):QM nb (fun r:NT × Bool=>if r.2=true then WtW r.1 else FW r.1) (q2n ws nb P O):=fun t o=>by
 unfold q2n;refine QV.ite (fun _=> ?_) fun _=>QV.ite (fun _=> ?_) fun _=> ?_
 · refine QV.then_ (q26 G _ t o) fun x _=>QM.then_ (q_be G 1) fun y hy=>QM.then_ (q_params G) fun l hl=>QM.then_ (q2p G _) fun _ _=>QM.then_ hP fun n hn=>QM.then_ (q1s G _) fun _ _=>QM.ok ?_;show WtW (.mk 32 (x.at_:Int) ⟨y.text.toArray⟩ vtN l [n]);intro k hk;exact FW.mk (op:=32) (ks:=[n]++[k]) (show mfB 32 2=true by decide) (by unfold ttB;rw [if_pos (by decide)];exact hy.1.pl (.inl hy.2)) (fun h=>vf_no (by decide) _) (by unfold nsB;rw [if_pos rfl];exact List.all_eq_true.2 hl) ((AllW.two hn hk).ko (by decide))
 · exact QV.then_ (q2a G t o) fun x _=>QM.then_ (q_be G 3) fun y hy=>QM.then_ (q2p G _) fun _ _=>QM.ok (WtW.tx (by decide) (by decide) (by decide) (by decide) (by decide) (hy.1.pl (.inr hy.2)) AllW.nil)
 · refine QV.then_ (q_unary G hP hO t o) fun n hn t1 o1=>QV.ite (fun _=> ?_) fun _=> ?_
   · exact QV.then_ (q2a G t1 o1) fun x _=>QM.then_ (q_be G 3) fun y hy=>QM.then_ (q2p G _) fun _ _=>QM.ok (WtW.tx (show mfB 29 2=true by decide) (by decide) (by decide) (by decide) (by decide) (hy.1.pl (.inr hy.2)) (AllW.one hn))
   · refine QV.then_ (q_behind G hO (Nat.le_refl 1) hn t1 o1) fun m hm t2 o2=>QV.ite (fun _=> ?_) fun _=> ?_
     · exact (WtW.nd (show mfB 12 2=true by decide) (by decide) (by decide) (by decide) (by decide) (AllW.one hm):WtW (ndP 12 _ [m]))
     · exact (hm:FW m)
theorem q_pipe (G:GW ws nb) (hP:QM nb FW P) (hO:∀ l,1≤l→QM nb FW (O l)):QM nb FW (pipeP ws nb P O):=by
 unfold pipeP;refine QM.loop (Q:=AllT) (fun a ha=>QM.then_ (q_link G hP hO) fun r hr=>QM.itm (fun hc=> ?_) fun hc=> ?_) _ _ AllT.nil
 · rw [if_pos hc] at hr;exact QM.ok (ha.snoc hr)
 · rw [if_neg hc] at hr;exact QM.ok (q2j ha hr)
theorem q_po (G:GW ws nb):∀ m:Nat,QM nb FW (poP ws nb m).1∧∀ l,1≤l→QM nb FW ((poP ws nb m).2 l)
 | 0=>⟨fun t o=>Nat.zero_le _,fun l _ t o=>Nat.zero_le _⟩
 | m+1=>by
  obtain ⟨h1,h2⟩:=q_po G m;exact ⟨q_pipe G h1 h2,fun l hl=>QM.then_ (q_unary G h1 h2) fun n hn=>q_behind G h2 hl hn⟩
theorem q_whole (G:GW ws nb):QV nb FW (q2b ws nb):=QV.then_ ((q_po G _).1 0 0) fun A hA t o=>QV.ite (fun _=>q_ft G t o) fun _=>hA
end
theorem unqL_step9 {l:List UInt8} {p:Nat} (acc:List Nat) (h:p<l.length):unqL l p acc=
 (if (decL (l.drop p)).1=34 then (acc,p+1,0)
 else if (decL (l.drop p)).1<32 then ([],p,22)
 else if q0S (l.drop p)=true then ([],p,20)
 else if (decL (l.drop p)).1=92 then
  (if (escL l p).2.2=0 then (if p<(escL l p).2.1 then unqL l (escL l p).2.1 (acc++[(escL l p).1]) else ([],0,0)) else ([],(escL l p).2.1,(escL l p).2.2))
 else (if 0<(decL (l.drop p)).2 then unqL l (p+(decL (l.drop p)).2) (acc++[(decL (l.drop p)).1]) else ([],0,0))):=by
 rw [unqL,dif_pos h]
theorem ok_ascii9 (c:UInt8) (l:List UInt8) (h:c.toNat<128):okB (c::l)=okB l:=by
 have e:enc c.toNat=[c]:=by unfold enc;rw [if_pos h,u8_of rfl]
 have:=ok_enc c.toNat (by unfold isR;omega) l;rw [e] at this;exact this
theorem ok_asciis9 (ms l:List UInt8) (h:∀ c∈ms,c.toNat<128):okB (ms++l)=okB l:=by
 induction ms with
 | nil=>rfl
 | cons c r ih=>
  rw [List.cons_append,ok_ascii9 c _ (h c (List.mem_cons_self ..)),ih fun x hx=>h x (List.mem_cons_of_mem _ hx)]
theorem unq_isR9 {l:List UInt8}:∀ (n p:Nat) (acc:List Nat),l.length-p≤n→(∀ z∈acc,isR z)→(unqL l p acc).2.2=0→∀ z∈(unqL l p acc).1,isR z:=by
 intro n
 induction n with
 | zero=>
  intro p acc hn ha h;rw [unqL,dif_neg (by omega)] at h
  cases h
 | succ n ih=>
  intro p acc hn ha h;by_cases hp:p<l.length
  · have hne:l.drop p≠[]:=fun e=>by have:=congrArg List.length e;rw [List.length_drop] at this;simp at this;omega
    rw [unqL_step9 acc hp] at h ⊢
    split
    · exact ha
    · next h34=>
      rw [if_neg h34] at h
      split
      · next h32=>rw [if_pos h32] at h;cases h
      · next h32=>
        rw [if_neg h32] at h
        split
        · next hs=>rw [if_pos hs] at h;cases h
        · next hs=>
          rw [if_neg hs] at h
          split
          · next h92=>
            rw [if_pos h92] at h
            split
            · next he=>
              rw [if_pos he] at h;obtain ⟨g1,g2,g3,_⟩:=escL_ok he;rw [if_pos g1] at h ⊢;refine ih _ _ (by omega) (fun z hz=> ?_) h;rcases List.mem_append.1 hz with hz|hz
              · exact ha z hz
              · rcases List.mem_singleton.1 hz with rfl;exact g3
            · next he=>
              rw [if_neg he] at h;exact absurd h he
          · next h92=>
            rw [if_neg h92] at h
            split
            · next h0=>
              rw [if_pos h0] at h;refine ih _ _ (by omega) (fun z hz=> ?_) h;rcases List.mem_append.1 hz with hz|hz
              · exact ha z hz
              · rcases List.mem_singleton.1 hz with rfl;exact decL_isR _ hne
            · next h0=>
              intro z hz
              cases hz
  · rw [unqL,dif_neg hp] at h
    cases h
theorem in_asc {c:UInt8} (h:inB c=true):c.toNat<128:=by
 unfold inB leB dgB at h;rw [Bool.or_eq_true,decide_eq_true_iff,decide_eq_true_iff] at h;omega
theorem asc_ok {l:List UInt8} (h:∀ c∈l,c.toNat<128):okB l=true:=by
 have:=ok_asciis9 l [] h;rw [List.append_nil] at this;rw [this,ok_nil]
theorem name_in {l:List UInt8} {p:Nat}:∀ c∈q0l l p,inB c=true:=by
 intro c hc;unfold q0l at hc
 split at hc
 · next h=>
   obtain ⟨j,hj,rfl⟩:=List.getElem_of_mem hc;have hge:=q1A inB (l:=l) (p:=p) (by omega);rw [cut_len hge.2] at hj
   have e:(cut l p (bhP inB l p))[j]'(by rw [cut_len hge.2];exact hj)=l.getD (p+j) 0:=by
    unfold cut;rw [List.getElem_take,List.getElem_drop,List.getD,List.getElem?_eq_getElem (by omega)];rfl
   rw [e];exact bhP_in _ p (p+j) (Nat.le_refl _) (by omega) (by omega) (by omega)
 · cases hc
theorem name_ok (l:List UInt8) (p:Nat):okB (q0l l p)=true:=asc_ok fun c hc=>in_asc (name_in c hc)
theorem name_named {l:List UInt8} {p:Nat} (hne:q0l l p≠[]):namedB (q0l l p)=true:=by
 have hin:=name_in (l:=l) (p:=p);unfold namedB;rw [decide_eq_true_iff];refine ⟨hne,?_⟩
 have h0:leB ((q0l l p).getD 0 0)=true:=by
  unfold q0l at hne ⊢;by_cases h:p<l.length∧leB (l.getD p 0)=true
  · rw [if_pos h];have hg:=bhP_gt (P:=inB) h.1 (by unfold inB;rw [h.2];rfl)
    have e:(cut l p (bhP inB l p)).getD 0 0=l.getD p 0:=by
     unfold cut;obtain ⟨m,hm⟩:∃ m,bhP inB l p-p=m+1:=⟨bhP inB l p-p-1,by omega⟩;rw [hm,q1b h.1];rfl
    rw [e];exact h.2
  · rw [if_neg h] at hne;exact absurd rfl hne
 generalize q0l l p=x at *;have hx:0<x.length:=List.length_pos_iff.2 hne
 have hs:∀ k,k≤x.length→bhP inB x 0=bhP inB x k:=by
  intro k
  induction k with
  | zero=>intro _;rfl
  | succ k ih=>
   intro hk;rw [ih (by omega),q1j (by omega) (by rw [List.getD,List.getElem?_eq_getElem (by omega)];exact hin _ (List.getElem_mem _))]
 have hb:bhP inB x 0=x.length:=by rw [hs x.length (Nat.le_refl _),q1L]
 unfold q0l;rw [if_pos ⟨hx,h0⟩,hb];unfold cut;rw [List.drop_zero,Nat.sub_zero,List.take_length]
theorem mk_ok:∀ m∈mkL,okB m=true:=by decide
theorem mkW_ok (l:List UInt8) (p:Nat):okB (mkW l p)=true:=by
 unfold mkW
 split
 · next h=>exact mk_ok _ (List.contains_iff_mem.1 h)
 · split
   · next h=>exact mk_ok _ (List.contains_iff_mem.1 h)
   · split
     · next h=>exact mk_ok _ (List.contains_iff_mem.1 h)
     · exact ok_nil
theorem pc_ok {l:List UInt8} {p a b:Nat} (ha:a≠1∧a≠3∧a≠5) (hb:b≠1∧b≠3∧b≠5) (he:(q0T l p a b).err=0):((q0T l p a b).kind=a∨(q0T l p a b).kind=b)∧okB (q0T l p a b).text=true:=by
 unfold q0T at he ⊢;by_cases h:(pcU l p).2.2=0
 · have ht:okB (txt (pcU l p).1)=true:=ok_txt _ (by
    unfold pcU at h ⊢;exact unq_isR9 _ _ _ (Nat.le_refl _) (fun z hz=>(by cases hz)) h)
   rw [if_pos h]
   split
   · exact ⟨.inr rfl,ht⟩
   · exact ⟨.inl rfl,ht⟩
 · rw [if_neg h] at he;exact absurd he h
theorem tok_tg {l:List UInt8} {op:List Nat} {p:Nat} (hp:p<l.length) (he:(tokW l op p).err=0):TG l.length (tokW l op p):=by
 have hat:(tokW l op p).at_≤l.length:=by rw [(tok_up hp he).1];omega
 suffices h:((tokW l op p).kind=1∨(tokW l op p).kind=3→q0r (tokW l op p).text=true)∧((tokW l op p).kind≠5→okB (tokW l op p).text=true)∧((tokW l op p).kind=5→Pl.formed (tokW l op p).text=true∧0≤Pl.cmpN (tokW l op p).text [48]) from ⟨h.1,h.2.1,h.2.2,hat⟩
 clear hat;unfold tokW at he ⊢;by_cases c1:leB (l.getD p 0)=true
 · rw [if_pos c1] at he ⊢;unfold nameT;refine ⟨fun h=> ?_,fun _=>name_ok l p,fun h=> ?_⟩
   · have hnm:=name_named (l:=l) (p:=p) (List.length_pos_iff.1 (nameW_pos hp c1))
     have ho:ownB (q0l l p)=false:=by
      cases hb:ownB (q0l l p) with
      | false=>rfl
      | true=>simp [hb] at h
     show q0r (q0l l p)=true;unfold q0r;rw [hnm,ho];rfl
   · cases hb:ownB (q0l l p) <;> simp [hb] at h
 rw [if_neg c1] at he ⊢;by_cases c2:(l.getD p 0).toNat=36
 · rw [if_pos c2] at he ⊢;unfold varT at he ⊢;by_cases hpl:q0r (q0l l (p+1))=true
   · rw [if_pos hpl];exact ⟨fun _=>hpl,fun _=>name_ok l _,fun h=>(by cases h)⟩
   · rw [if_neg hpl] at he;cases he
 rw [if_neg c2] at he ⊢;by_cases c3:(l.getD p 0).toNat=46∧q0l l (p+1)≠[]
 · rw [if_pos c3];unfold fieldT;exact ⟨fun h=>(by rcases h with h|h <;> cases h),fun _=>name_ok l _,fun h=>(by cases h)⟩
 rw [if_neg c3] at he ⊢;by_cases c4:dgB (l.getD p 0)=true
 · rw [if_pos c4] at he ⊢;unfold q27 at he ⊢;by_cases hfo:Pl.formed (cut l p (bhP nuB l p))=true
   · rw [if_pos hfo];refine ⟨fun h=>(by rcases h with h|h <;> cases h),fun h=>absurd rfl h,fun _=>⟨hfo,?_⟩⟩;have hg:=bhP_gt (P:=nuB) hp (by unfold nuB inB;rw [c4];simp)
     have e:cut l p (bhP nuB l p)=l.getD p 0::(l.drop (p+1)).take (bhP nuB l p-p-1):=by
      unfold cut;obtain ⟨m,hm⟩:∃ m,bhP nuB l p-p=m+1:=⟨bhP nuB l p-p-1,by omega⟩;rw [hm,q1b hp,List.take_succ_cons];rfl
     show 0≤Pl.cmpN (cut l p (bhP nuB l p)) [48];rw [e] at hfo ⊢
     have hc:¬ (l.getD p 0).toNat=45:=by
      unfold dgB at c4;have:=of_decide_eq_true c4;omega
     have h48:Pl.formed [48]=true:=by decide
     rw [Pl.cmpN_val hfo h48];have h2:Pl.ival [48]=0:=by decide
     have h3:0≤Pl.ival (l.getD p 0::(l.drop (p+1)).take (bhP nuB l p-p-1)):=by
      unfold Pl.ival;rw [Pl.neg_cons,decide_eq_false hc];simp
     rw [h2];unfold Pl.cmpI
     split
     · omega
     · split <;> omega
   · rw [if_neg hfo] at he;cases he
 rw [if_neg c4] at he ⊢;by_cases c5:(l.getD p 0).toNat=34
 · rw [if_pos c5] at he ⊢;obtain ⟨h1,h2⟩:=pc_ok (by decide) (by decide) he;exact ⟨fun h=>by omega,fun _=>h2,fun h=>by omega⟩
 rw [if_neg c5] at he ⊢;by_cases c6:(l.getD p 0).toNat=41∧clsB op=true
 · rw [if_pos c6] at he ⊢;obtain ⟨h1,h2⟩:=pc_ok (by decide) (by decide) he;exact ⟨fun h=>by omega,fun _=>h2,fun h=>by omega⟩
 rw [if_neg c6] at he ⊢;unfold markT at he ⊢;by_cases hm:mkW l p=[]
 · rw [if_pos hm] at he;cases he
 · rw [if_neg hm];exact ⟨fun h=>(by rcases h with h|h <;> cases h),fun _=>mkW_ok l p,fun h=>(by cases h)⟩
theorem sc_gw {l:List UInt8} (h:∀ t∈scW l,t.err=0):GW (scW l) l.length:=fun t=>by
 by_cases ht:t<(scW l).length
 · have e:hrP (scW l) t=(scW l)[t]:=by
    unfold hrP;rw [List.getD,List.getElem?_eq_getElem ht];rfl
   rw [e];obtain ⟨op,h1,_,h3⟩:=sc_tok (l:=l) _ _ [] (q2o (Nat.zero_le _)).2 h _ (List.getElem_mem ht);have he:=h _ (List.getElem_mem ht);rw [h1] at he ⊢;exact tok_tg h3 he
 · rw [hr_end (by omega)];exact ⟨fun h=>(by rcases h with h|h <;> cases h),fun _=>ok_nil,fun h=>(by cases h),Nat.zero_le _⟩
end Go.Proofs.YtbpopnafcpfifaaGreatDoor
namespace Go.Proofs.YtbpopnafcpfifaaGreatDoor
open Go.RowKit Go.Shelf Go.Sort
attribute [local go_sem] Oper.semAt_some
set_option maxRecDepth 100000
set_option maxHeartbeats 12800000
noncomputable def ksB (fm:NT→Bool) (A:NT):Bool:=(List.range A.kids.length).all fun i=>kfB fm A.op A.kids i (A.kids.getD i nn0)
theorem ks_up {p:Nat→Bool} {k:Nat} (h:(List.range k).all p=true) (hp:p k=true):(List.range (k+1)).all p=true:=by
 rw [List.range_succ,List.all_append,h];simp [hp]
theorem ks_no {p:Nat→Bool} {k n:Nat} (h:k<n) (hp:p k=false):(List.range n).all p=false:=by
 rw [List.all_eq_false];exact ⟨k,List.mem_range.2 h,by rw [hp];decide⟩
theorem mf8 {n:Int} (h:mfB 8 n=true):n=3:=by
 have:mfB 8 n=(n==3):=by simp [mfB]
 rw [this] at h;exact eq_of_beq h
theorem w_kidsFit (h:Nat) (ih:FpNOk h) (A:NT) (g o:Nat) (w:World) (hA:NAt w (h+1) A g o):Calls Tryz.prog 22 #[.pointer (some ⟨g,o,none⟩)] w fun e w'=>e= .returned (.bool (mfB A.op (A.kids.length:Int)&&ksB (fpN h) A))∧Below w.heap.size w w':=by
 obtain ⟨aio,aic,ayo,ayc,ano,anc,ako,akc,HA⟩:=hA.open_;have c0:=HA.c0;have c9:=HA.c9;have HC9:=hQz HA.c9;have hcap:=HA.kl.1;have hbig:=HA.kl.2;have HM:Hid (∀ d os,Calls Tryz.prog 51 #[.int .i64 A.op,.int .i64 (A.kids.length:Int)] (grow (redrawn w d) os) fun e w'=>e= .returned (.bool (mfB A.op (A.kids.length:Int)))∧Below (grow (redrawn w d) os).heap.size (grow (redrawn w d) os) w'):=fun d os=>(w_manyFit A.op A.kids.length HA.kl.2 _).mono (by rintro e w' ⟨rfl,rfl⟩;exact ⟨rfl,Below.refl _ _⟩)
 have HKf:Hid (mfB A.op (A.kids.length:Int)=true→∀ (i:Nat),i<A.kids.length→∀ u,Below w.heap.size w u→Calls Tryz.prog 52 #[.pointer (some ⟨g,o,none⟩),.int .i64 (i:Int)] u fun e w'=>e= .returned (.bool (kfB (fpN h) A.op A.kids i (A.kids.getD i nn0)))∧Below u.heap.size u w'):=fun hm i hi u hu=>w_kidFits h ih A g o i u (hA.keep hu) hi (fun h8=>by
  rw [h8] at hm;have:=mf8 hm;omega)
 have P0:=fun d os=>cell_regrown c0 d os;have P9:=fun d os=>cell_regrown c9 d os;clear HA hA c0 c9;unfold ksB;generalize hf:(fun i=>kfB (fpN h) A.op A.kids i (A.kids.getD i nn0))=p at*
 have HK2:Hid (mfB A.op (A.kids.length:Int)=true→∀ (i:Nat),i<A.kids.length→∀ u,Below w.heap.size w u→Calls Tryz.prog 52 #[.pointer (some ⟨g,o,none⟩),.int .i64 (i:Int)] u fun e w'=>e= .returned (.bool (p i))∧Below u.heap.size u w'):=fun hm i hi u hu=>by
  have:=HKf.out hm i hi u hu;rw [← hf];exact this
 clear HKf hf;generalize A.kids.length=N at *;generalize A.op=aop at *;obtain ⟨R,HR⟩:∃ R,Hid ((mfB aop (N:Int)&&(List.range N).all p)=R):=⟨_,rfl⟩;rw [HR.out]
 cases hm:mfB aop (N:Int) with
 | false=>
  rw [hm] at HM HR;have HT:Hid (R=false):=HR.out.symm;clear hm;go_enter Tryz.func22,Tryz.ntmps22;go_wp2_with fail;refine wp_region_quiet_below (by kernel_rfl) (by kernel_rfl) ?_
  repeat (go_big_quiet_step (exact Calls.regrown_of (HM.out _ _)))
  refine wpQuiet_nil ?_;intro w2 hw'
  have HB2:Hid (Below w.heap.size w w2):=by
   obtain ⟨⟨dq,osq⟩,rfl⟩:=hw';exact below_regrown w dq osq
  clear hw' P0 P9;go_wp2_with fail;go_ret;exact ⟨by rw [HT.out];rfl,HB2.out⟩
 | true=>
  have HK3:=hQz (HK2.out hm);rw [hm] at HM HR;have HR3:Hid (R=(List.range N).all p):=HR.out.symm;clear hm HK2 HR;go_enter Tryz.func22,Tryz.ntmps22;go_wp2_with fail;refine wp_region_quiet_below (by kernel_rfl) (by kernel_rfl) ?_
  repeat (go_big_quiet_step (exact Calls.regrown_of (HM.out _ _)))
  refine wpQuiet_nil ?_;intro w2 hw'
  have HB2:Hid (Below w.heap.size w w2):=by
   obtain ⟨⟨dq,osq⟩,rfl⟩:=hw';exact below_regrown w dq osq
  clear hw' P0 P9;have r9:=(HB2.out.cell (p:=⟨g,o+9,none⟩) (block_lt_of_cell HC9.out)).trans HC9.out;go_wp2_with fail;clear r9
  go_loopw [20] (fun i wr=>∃ k:Nat,k≤N∧i= .int .i64 (k:Int)∧Hid (Below w.heap.size w wr)∧Hid ((List.range k).all p=true)) (fun i _=>N-(intOf i).toNat)
  case atStart=>exact ⟨0,Nat.zero_le _,rfl,HB2,rfl⟩
  case round=>
   obtain ⟨k,hk,rfl,HBw,HQ⟩:=hrel;by_cases hlt:k<N
   · have hl1:(k:Int)<(N:Int):=by omega
     have hl0:(0:Int)≤(k:Int):=by omega
     have HCr:=hQz (HK3.out k hlt wr HBw.out);have HUp:Hid (p k=true→(List.range (k+1)).all p=true):=fun hp=>ks_up HQ.out hp;have HNo:Hid (p k=false→(List.range N).all p=false):=fun hp=>ks_no hlt hp;generalize p k=y at *;go_wp2_with fail;refine HCr.out.mono ?_;rintro e w3 ⟨rfl,hb3⟩;have HB3:Hid (Below w.heap.size w w3):=HBw.out.trans (hb3.mono HBw.out.size);clear hb3
     cases y with
     | true=>
      have HQ3:=hQz (HUp.out rfl);go_wp2_with fail;go_roundw
      case rel=>exact ⟨k+1,by omega,by go_num,HB3,HQ3⟩
      case measure=>simp [intOf];omega
     | false=>
      have HT:Hid (R=false):=HR3.out.trans (HNo.out rfl);go_wp2_with fail;go_ret;exact ⟨by rw [HT.out];rfl,HB3.out⟩
   · have hl1:¬ (k:Int)<(N:Int):=by omega
     have HT:Hid (R=true):=by
      have e:=HQ.out;rw [show k=N by omega] at e;exact HR3.out.trans e
     go_wp2_with fail;go_ret;exact ⟨by rw [HT.out];rfl,HBw.out⟩
theorem fp_step (h:Nat) (ih:FpNOk h):FpNOk (h+1):=by
 intro A g o w hA;have H1:Hid (∀ u,Below w.heap.size w u→Calls Tryz.prog 22 #[.pointer (some ⟨g,o,none⟩)] u fun e w'=>e= .returned (.bool (mfB A.op (A.kids.length:Int)&&ksB (fpN h) A))∧Below u.heap.size u w'):=fun u hu=>w_kidsFit h ih A g o u (hA.keep hu);have H2:Hid (∀ u,Below w.heap.size w u→Calls Tryz.prog 23 #[.pointer (some ⟨g,o,none⟩)] u fun e w'=>e= .returned (.bool (ttB A.op A.text))∧Below u.heap.size u w'):=fun u hu=>w_textFits h A g o u (hA.keep hu);have H3:Hid (∀ u,Below w.heap.size w u→Calls Tryz.prog 24 #[.pointer (some ⟨g,o,none⟩)] u fun e w'=>e= .returned (.bool (vfB (h+1) A.op A.value))∧Below u.heap.size u w'):=fun u hu=>w_valueFits h A g o u (hA.keep hu);have H4:Hid (∀ u,Below w.heap.size w u→Calls Tryz.prog 25 #[.pointer (some ⟨g,o,none⟩)] u fun e w'=>e= .returned (.bool (nsB A.op A.names))∧Below u.heap.size u w'):=fun u hu=>w_namesFit h A g o u (hA.keep hu);obtain ⟨R,HR⟩:∃ R,Hid (fpN (h+1) A=R):=⟨_,rfl⟩;rw [HR.out]
 have HR2:Hid (R=((mfB A.op (A.kids.length:Int)&&ksB (fpN h) A)&&ttB A.op A.text&&vfB (h+1) A.op A.value&&nsB A.op A.names)):=by
  show _=_;rw [← HR.out,fpN];unfold ksB;rfl
 clear HR hA;generalize (mfB A.op (A.kids.length:Int)&&ksB (fpN h) A)=r1 at *;generalize ttB A.op A.text=r2 at *;generalize vfB (h+1) A.op A.value=r3 at *;generalize nsB A.op A.names=r4 at *;have HB0:Hid (Below w.heap.size w w):=Below.refl _ _
 cases r1 with
 | false=>
  have HT:Hid (R=false):=HR2.out.trans rfl;go_enter Tryz.func12,Tryz.ntmps12;go_wp2_with fail;refine (H1.out _ HB0.out).mono ?_;rintro e w1 ⟨rfl,hb1⟩;have HB1:=hQz (HB0.out.trans (hb1.mono HB0.out.size));clear hb1;go_wp2_with fail;go_ret;exact ⟨by rw [HT.out];rfl,HB1.out⟩
 | true=>
  cases r2 with
  | false=>
   have HT:Hid (R=false):=HR2.out.trans rfl;go_enter Tryz.func12,Tryz.ntmps12;go_wp2_with fail;refine (H1.out _ HB0.out).mono ?_;rintro e w1 ⟨rfl,hb1⟩;have HB1:=hQz (HB0.out.trans (hb1.mono HB0.out.size));clear hb1;go_wp2_with fail;refine (H2.out _ HB1.out).mono ?_;rintro e w2 ⟨rfl,hb2⟩;have HB2:=hQz (HB1.out.trans (hb2.mono HB1.out.size));clear hb2;go_wp2_with fail;go_ret;exact ⟨by rw [HT.out];rfl,HB2.out⟩
  | true=>
   cases r3 with
   | false=>
    have HT:Hid (R=false):=HR2.out.trans rfl;go_enter Tryz.func12,Tryz.ntmps12;go_wp2_with fail;refine (H1.out _ HB0.out).mono ?_;rintro e w1 ⟨rfl,hb1⟩;have HB1:=hQz (HB0.out.trans (hb1.mono HB0.out.size));clear hb1;go_wp2_with fail;refine (H2.out _ HB1.out).mono ?_;rintro e w2 ⟨rfl,hb2⟩;have HB2:=hQz (HB1.out.trans (hb2.mono HB1.out.size));clear hb2;go_wp2_with fail;refine (H3.out _ HB2.out).mono ?_;rintro e w3 ⟨rfl,hb3⟩;have HB3:=hQz (HB2.out.trans (hb3.mono HB2.out.size));clear hb3;go_wp2_with fail;go_ret;exact ⟨by rw [HT.out];rfl,HB3.out⟩
   | true=>
    have HT:Hid (R=r4):=HR2.out.trans (by simp);go_enter Tryz.func12,Tryz.ntmps12;go_wp2_with fail;refine (H1.out _ HB0.out).mono ?_;rintro e w1 ⟨rfl,hb1⟩;have HB1:=hQz (HB0.out.trans (hb1.mono HB0.out.size));clear hb1;go_wp2_with fail;refine (H2.out _ HB1.out).mono ?_;rintro e w2 ⟨rfl,hb2⟩;have HB2:=hQz (HB1.out.trans (hb2.mono HB1.out.size));clear hb2;go_wp2_with fail;refine (H3.out _ HB2.out).mono ?_;rintro e w3 ⟨rfl,hb3⟩;have HB3:=hQz (HB2.out.trans (hb3.mono HB2.out.size));clear hb3;go_wp2_with fail;refine (H4.out _ HB3.out).mono ?_;rintro e w4 ⟨rfl,hb4⟩;have HB4:=hQz (HB3.out.trans (hb4.mono HB3.out.size));clear hb4;go_wp2_with fail;go_ret;exact ⟨by rw [HT.out];rfl,HB4.out⟩
theorem w_formedN:∀ h,FpNOk h
 | 0=>fun _ _ _ _ ⟨_,_,hA⟩=>hA.elim
 | h+1=>fp_step h (w_formedN h)
theorem w_FormedP (h:Nat) (A:NT) (va:Value) (w:World) (hA:InA w h A va):Calls Tryz.prog 7 #[va] w fun e w'=>e= .returned (.bool (fpN h A))∧Below w.heap.size w w':=by
 obtain ⟨aop,aat,avk,atx,avn,avx,aio,ayo,ano,ako,avi,aic,avy,ayc,ann,anc,akn,akc,rfl⟩:=inA_shape hA;obtain ⟨W1,hW1⟩:∃ W1,w.alloc (.cells #[.int .i64 aop,.int .i64 aat,.string atx,.int .i64 avk,.string avn,.string avx,.slice aio avi aic,.slice ayo avy ayc,.slice ano ann anc,.slice ako akn akc] 28)=W1:=⟨_,rfl⟩;have HX:=hQz (B1.new hW1);have HC:Hid (Calls Tryz.prog 12 #[.pointer (some ⟨w.heap.size,0,none⟩)] W1 fun e w'=>e= .returned (.bool (fpN h A))∧Below W1.heap.size W1 w'):=w_formedN h A _ 0 W1 (nat_box (c:=c10 (.int .i64 aop) (.int .i64 aat) (.string atx) (.int .i64 avk) (.string avn) (.string avx) (.slice aio avi aic) (.slice ayo avy ayc) (.slice ano ann anc) (.slice ako akn akc)) HX.out.a (hA.low HX.out.below));generalize fpN h A=r at *;clear hA;go_enter Tryz.func7,Tryz.ntmps7;go_wp2_with fail;refine HC.out.mono ?_;rintro e w2 ⟨rfl,hb2⟩;have HX2:=hQz (HX.out.keep hb2);clear hb2;go_wp2_with fail;go_ret;exact ⟨rfl,HX2.out.below⟩
end Go.Proofs.YtbpopnafcpfifaaGreatDoor
