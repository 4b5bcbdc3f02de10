import Derived.Test.YtbpopnafcpfifaaGreatDoorM27
import Derived.Deep.Cut
set_option linter.unusedVariables false
set_option linter.unusedSimpArgs false
namespace Go.Proofs.YtbpopnafcpfifaaGreatDoor
open Go.RowKit
def RpR (r:List Nat × Nat × Bool × Nat) (w w':World) (e:Ending):Prop:=e= .returned (.tuple #[.int .i64 (r.2.1:Int),.bool r.2.2.1,.string ⟨(txt r.1).toArray⟩,.int .i64 (r.2.2.2:Int)])∧Below w.heap.size w w'
theorem rpR_mk {r:List Nat × Nat × Bool × Nat} {w w':World} {A:List Nat} {p c:Nat} {b:Bool} {q z:Int} {t:ByteArray} (h:r=(A,p,b,c)) (hq:q=(p:Int)) (ht:t=⟨(txt A).toArray⟩) (hz:z=(c:Int)) (hb:Below w.heap.size w w'):RpR r w w' (.returned (.tuple #[.int .i64 q,.bool b,.string t,.int .i64 z])):=by
 subst h hq ht hz;exact ⟨rfl,hb⟩
structure RpS (w W:World) (v:Value) (n:Nat) (acc:List Nat):Prop where
 len:(txt acc).length=n
 own:W.ownsRow w.heap.size 5 1 v n (Lib.byteCells (txt acc))
 below:Below w.heap.size w W
theorem inw_bytes {s:ByteArray} {l:List UInt8} {i:Nat} (HG:∀ q (h:q<s.size),l.getD q 0=s[q]) (HL:l.length=s.size) (hi:i<s.size) (h92:s[i].toNat=92) (h1:i+1<s.size) (h40:s[i+1].toNat=40):inwB l i=true:=by
 rw [q2o];refine ⟨l.drop (i+1+1),?_⟩;rw [q0M (by omega),q0M (by omega),HG i hi,HG (i+1) h1];have e1:s[i]=92:=by apply UInt8.toNat_inj.1;exact h92
 have e2:s[i+1]=40:=by apply UInt8.toNat_inj.1;exact h40
 rw [e1,e2]
theorem inw_end {l:List UInt8} {i:Nat} (h:¬ i+1<l.length):inwB l i=false:=by
 cases hw:inwB l i with
 | false=>rfl
 | true=>
  obtain ⟨r,hr⟩:=q2o.1 hw;have:=congrArg List.length hr;rw [List.length_drop] at this;simp at this;omega
theorem pre_take {l:List UInt8} {m:Nat} (h:3≤m∨l.length≤m):Lib.hasPrefix (l.take m) [239,191,189]=Lib.hasPrefix l [239,191,189]:=by
 rcases h with h|h
 · unfold Lib.hasPrefix
   match l,m,h with
   | [],m,_=>simp
   | [a],m+3,_=>simp
   | [a,b],m+3,_=>simp
   | a::b::c::r,m+3,_=>simp [List.isPrefixOf]
 · rw [List.take_of_length_le h]
theorem dec_win {l:List UInt8} {i to:Nat} (hi:i<l.length) (hto:to=min (i+4) l.length):decL ((l.drop i).take (to-i))=decL (l.drop i)∧q0p ((l.drop i).take (to-i))=q0p (l.drop i):=by
 have hne:l.drop i≠[]:=fun e=>by have:=congrArg List.length e;rw [List.length_drop] at this;simp at this;omega
 have h4:(decL (l.drop i)).2≤4:=by
  rcases q1Z (l.drop i) hne with ⟨n,post,hr,h,_⟩|⟨h,_⟩
  · rw [h,q1m n hr post];exact (enc_len n).2
  · rw [h];decide
 have hl:=q2p (l.drop i) hne;rw [List.length_drop] at hl;have e1:=decL_take (l.drop i) (to-i) hne (by omega);refine ⟨e1,?_⟩;unfold q0p;rw [e1,pre_take (by rw [List.length_drop];omega)]
theorem rune_bytes {l:List UInt8} {i:Nat} (hi:i<l.length) (h:q0p (l.drop i)=false):cut l i (i+(decL (l.drop i)).2)=enc (decL (l.drop i)).1∧isR (decL (l.drop i)).1:=by
 have hne:l.drop i≠[]:=fun e=>by have:=congrArg List.length e;rw [List.length_drop] at this;simp at this;omega
 rcases q1Z (l.drop i) hne with ⟨n,post,hr,hh,_⟩|⟨_,hs⟩
 · have hd:=q1m n hr post;unfold cut;rw [show i+(decL (l.drop i)).2-i=(decL (l.drop i)).2 by omega,hh,hd];exact ⟨List.take_left,hr⟩
 · rw [hs] at h;cases h
theorem runes_pos {t:List UInt8} (h:t≠[]):0<(q29 t).length:=by rw [q2g h];simp
set_option maxRecDepth 100000 in
set_option maxHeartbeats 6400000 in
theorem w_rpiece (s:ByteArray) (p:Nat) (w:World) (hp:p<s.size) (hs:s.size≤16777216):
 Calls Tryz.prog 14 #[.string s,.int .i64 (p:Int)] w fun e w'=>RpR (rpc s.data.toList (s.data.toList.length+1) (p+1) []) w w' e:=by
 obtain ⟨i0,hi0,hz0,hz1,hz2⟩:=info_parts Tryz.infoB;have HEs:=hQz (fun i u (hi:i<s.size)=>w_rEscape s i u hi (by omega));unfold EscRx at HEs;have HXb:Hid (∀ a b,b≤s.size→(s.extract a b).data.toList=cut s.data.toList a b):=fun a b hb=>q0P s a b hb;obtain ⟨l,hl⟩:∃ l,l=s.data.toList:=⟨_,rfl⟩;have HL:Hid (l.length=s.size):=by show _=_;rw [hl];exact q08 s
 have HG:Hid (∀ q (h:q<s.size),l.getD q 0=s[q]):=fun q h=>by rw [hl];exact q0f h
 rw [← hl] at HEs HXb ⊢;clear hl;obtain ⟨R,hR⟩:∃ R,rpc l (l.length+1) (p+1) []=R:=⟨_,rfl⟩;have HR0:Hid (R=rpc l (l.length+1) (p+1) []):=hR.symm;rw [hR];clear hR;have HS0:Hid (RpS w w (.slice none 0 0) 0 []):=⟨rfl,World.ownsRow_nil _ _ _ _,Below.refl _ _⟩;have hmx:Tryz.prog.follows .mixedOrders=true:=by kernel_rfl
 go_enter Tryz.func14,Tryz.ntmps14;go_wp2_with fail
 go_loopw [8,9] (fun vb vi wr=>∃ (i n:Nat) (so:Option Addr) (sc:Nat) (acc:List Nat),i≤s.size∧n≤4*i∧vi= .int .i64 (i:Int)∧vb= .slice so n sc∧Hid (R=rpc l (l.length+1) i acc)∧Hid (RpS w wr (.slice so n sc) n acc)) (fun _ a _=>s.size-(intOf a).toNat)
 case atStart=>exact ⟨p+1,0,none,0,[],by omega,by omega,by go_num,rfl,HR0,HS0⟩
 case round=>
  clear HS0 HR0;obtain ⟨i,n,so,sc,acc,hi,hn4,rfl,rfl,HRi,HS⟩:=hrel;by_cases hlt:i<s.size
  · have hi1:(i:Int)<(s.size:Int):=by omega
    have hi0':(0:Int)≤(i:Int):=by omega
    have hil:i<l.length:=by rw [HL.out];exact hlt
    have hrd:=rpc_def (acc:=acc) hil;rw [HG.out i hlt] at hrd;have HRD:=hQz (HRi.out.trans hrd);clear hrd HRi;by_cases h34:s[i].toNat=34
    · have HF:Hid (R=(acc,i+1,true,0)):=by have h:=HRD.out;rw [if_pos h34] at h;exact h
      have k34:((s[i].toNat:Nat):Int)=34:=by omega
      clear h34;have HB:=hQz HS.out.below.drew;have hcv0:=conv_own HS.out.len HS.out.own;have hcv:=conv_own (wr:=wr.drew) HS.out.len HS.out.own;clear HS HRD;go_wp2_with fail
      go_region
      all_goals go_wp2_with fail
      all_goals
       (try simp only [Exit.inBlock,Exit.then])
       refine bodyPost_ret (v:= .tuple #[.int .i64 ((i:Int)+1),.bool true,.string ⟨(txt acc).toArray⟩,.int .i64 0]) (by simp [results,Tryz.results14,go_sem];try rfl) rfl ?_;exact rpR_mk HF.out (by first|rfl|omega) rfl rfl HB.out
    have HRD1:Hid _:=hQz (by have h:=HRD.out;rw [if_neg h34] at h;exact h);have n34:¬ ((s[i].toNat:Nat):Int)=34:=by omega
    by_cases h92:s[i].toNat=92
    · by_cases hw:i+1<s.size∧∃ h:i+1<s.size,s[i+1].toNat=40
      · obtain ⟨hw1,_,hw2⟩:=hw;have hin:=inw_bytes HG.out HL.out hlt h92 hw1 hw2;have HF:Hid (R=(acc,i+2,false,0)):=by have h:=HRD1.out;rw [if_pos hin] at h;exact h
        have k92:((s[i].toNat:Nat):Int)=92:=by omega
        have j1:(i:Int)+1<(s.size:Int):=by omega
        have j0:(0:Int)≤(i:Int)+1:=by omega
        have k40:((s[i+1].toNat:Nat):Int)=40:=by omega
        clear h34 h92 hin hw2 HRD1 n34;have HB:=hQz HS.out.below.drew;have hcv0:=conv_own HS.out.len HS.out.own;have hcv:=conv_own (wr:=wr.drew) HS.out.len HS.out.own;clear HS HRD;go_wp2_with fail
        go_region
        all_goals go_wp2_with fail
        all_goals
         (try simp only [Exit.inBlock,Exit.then])
         refine bodyPost_ret (v:= .tuple #[.int .i64 ((i:Int)+2),.bool false,.string ⟨(txt acc).toArray⟩,.int .i64 0]) (by simp [results,Tryz.results14,go_sem];try rfl) rfl ?_;exact rpR_mk HF.out (by first|rfl|omega) rfl rfl HB.out
      · have hin:inwB l i=false:=by
         by_cases h1:i+1<s.size
         · refine inw_not (fun e=>hw ⟨h1,h1,?_⟩);rw [HG.out (i+1) h1] at e;rw [e];rfl
         · exact inw_end (by rw [HL.out];exact h1)
        have HRE:Hid (R=if (escL l i).2.2=0 then rpc l (l.length+1) (escL l i).2.1 (acc++[(escL l i).1]) else ([],i,false,(escL l i).2.2)):=by have h:=HRD1.out;rw [if_neg (by rw [hin];decide),if_pos h92] at h;exact h
        have HEi:=hQz (fun u=>HEs.out i u hlt);have hok:=q2r (l:=l) (k:=i);have HOK:=hQz hok;clear hok hin HRD1 HRD n34 h34;generalize escL l i=er at *;obtain ⟨z,p',c⟩:=er;dsimp only at HRE HEi HOK;have k92:((s[i].toNat:Nat):Int)=92:=by omega
        have W1:¬ (i:Int)+1<(s.size:Int)∨(i+1<s.size∧∃ h:i+1<s.size,¬ s[i+1].toNat=40):=by
         by_cases h1:i+1<s.size
         · exact .inr ⟨h1,h1,fun e=>hw ⟨h1,h1,e⟩⟩
         · left;omega
        clear hw h92;by_cases hc:c=0
        · subst hc;have hpl:=(HOK.out rfl).1;have hple:=(HOK.out rfl).2.1;have hzr:=(HOK.out rfl).2.2.1;rw [HL.out] at hple;have HRN:Hid (R=rpc l (l.length+1) p' (acc++[z])):=by have h:=HRE.out;rw [if_pos rfl] at h;exact h
          have HZR:Hid (isR z):=hzr;have hel:=enc_len z;have HEn:=hQz (fun u=>w_Encoding (z:Int) u);rw [rn_nat hzr] at HEn;have HTX:Hid (txt (acc++[z])=txt acc++enc z):=txt_snoc acc z;clear hzr HOK HRE;have KEY:Hid (∀ u,u=wr→Calls Tryz.prog 27 #[.int .i64 (z:Int)] u fun e w'=>q2t u w' e (enc z)):=fun u _=>HEn.out u;rcases W1 with W1|⟨j1,_,j40⟩
          · skip
            go_wp2_with fail;refine (HEi.out _).mono ?_;rintro e wq ⟨rfl,hwq⟩;obtain rfl:=hwq.symm;go_wp2_with fail;refine (HEn.out _).mono ?_;rintro e w1 ⟨g,rfl,hg,HBR,hb1⟩;have hown1:=q1G HS.out.own hb1;have hBw1:w.heap.size≤w1.heap.size:=Nat.le_trans HS.out.below.size hb1.size;have hB1:Hid (Below w.heap.size w w1):=HS.out.below.trans (hb1.mono HS.out.below.size)
            have hcells:∀ (j:Nat) (u:Value),(Lib.byteCells (enc z))[j]? =some u→w1.cell? ((⟨g,0,none⟩:Addr).add j)=some u:=by
             intro j u hj
             have hjl:j<(enc z).length:=by
              have:=(List.getElem?_eq_some_iff.1 hj).1;simpa [Lib.byteCells] using this
             have e:(⟨g,0,none⟩:Addr).add j=⟨g,j,none⟩:=by
              unfold Addr.add;by_cases h0:j=0 <;> simp [h0]
             rw [e,HBR.out.cell j hjl,← hj];simp [Lib.byteCells,hjl]
            have hone:∀ u∈Lib.byteCells (enc z),u.oneCell'=true:=by
             intro u hu;simp only [Lib.byteCells,List.mem_map] at hu;obtain ⟨c,_,rfl⟩:=hu;rfl
            have hnl:(Lib.byteCells (enc z)).length=(enc z).length*1:=by simp [Lib.byteCells]
            have HLn:=hQz HS.out.len;clear hb1 HEn HBR HEi;generalize enc z=el at *;go_wp2_with (at_builtin;refine wpList_append_own _ rfl _ _ 64 rfl w.heap.size 5 i0 (.int .u8 0) 1 1 Tryz.underlying64 hi0 hz0 hz1 hz2 rfl (by decide) _ _ _ rfl hown1 ⟨g,0,none⟩ el.length el.length (Lib.byteCells el) rfl hnl hcells hone (by unfold maxLen;omega) (by omega) hBw1 ?_);intro v2 w2 hown2 hgrow2 hnn;obtain ⟨so2,sc2,hv2⟩:=q2i hown2
            have HN2:Hid (RpS w w2 v2 (n+el.length) (acc++[z])):=by
             refine ⟨by rw [HTX.out,List.length_append,HLn.out],?_,hB1.out.grown hgrow2 hBw1 (q2L hown1)⟩;rw [HTX.out,Lib.byteCells_append];exact hown2
            subst hv2;clear hown2 hgrow2 hnn hown1 hcells hone hnl HS KEY;go_wp2_with fail;go_roundw
            case rel=>exact ⟨p',n+el.length,so2,sc2,acc++[z],hple,by omega,by first|rfl|go_num,by first|rfl|go_num,HRN,HN2⟩
            case measure=>simp [intOf];omega
          · skip
            have j1i:(i:Int)+1<(s.size:Int):=by omega
            have j0:(0:Int)≤(i:Int)+1:=by omega
            have k40:¬ ((s[i+1].toNat:Nat):Int)=40:=by omega
            clear j40;go_wp2_with fail;refine (HEi.out _).mono ?_;rintro e wq ⟨rfl,hwq⟩;obtain rfl:=hwq.symm;go_wp2_with fail;refine (HEn.out _).mono ?_;rintro e w1 ⟨g,rfl,hg,HBR,hb1⟩;have hown1:=q1G HS.out.own hb1;have hBw1:w.heap.size≤w1.heap.size:=Nat.le_trans HS.out.below.size hb1.size;have hB1:Hid (Below w.heap.size w w1):=HS.out.below.trans (hb1.mono HS.out.below.size)
            have hcells:∀ (j:Nat) (u:Value),(Lib.byteCells (enc z))[j]? =some u→w1.cell? ((⟨g,0,none⟩:Addr).add j)=some u:=by
             intro j u hj
             have hjl:j<(enc z).length:=by
              have:=(List.getElem?_eq_some_iff.1 hj).1;simpa [Lib.byteCells] using this
             have e:(⟨g,0,none⟩:Addr).add j=⟨g,j,none⟩:=by
              unfold Addr.add;by_cases h0:j=0 <;> simp [h0]
             rw [e,HBR.out.cell j hjl,← hj];simp [Lib.byteCells,hjl]
            have hone:∀ u∈Lib.byteCells (enc z),u.oneCell'=true:=by
             intro u hu;simp only [Lib.byteCells,List.mem_map] at hu;obtain ⟨c,_,rfl⟩:=hu;rfl
            have hnl:(Lib.byteCells (enc z)).length=(enc z).length*1:=by simp [Lib.byteCells]
            have HLn:=hQz HS.out.len;clear hb1 HEn HBR HEi;generalize enc z=el at *;go_wp2_with (at_builtin;refine wpList_append_own _ rfl _ _ 64 rfl w.heap.size 5 i0 (.int .u8 0) 1 1 Tryz.underlying64 hi0 hz0 hz1 hz2 rfl (by decide) _ _ _ rfl hown1 ⟨g,0,none⟩ el.length el.length (Lib.byteCells el) rfl hnl hcells hone (by unfold maxLen;omega) (by omega) hBw1 ?_);intro v2 w2 hown2 hgrow2 hnn;obtain ⟨so2,sc2,hv2⟩:=q2i hown2
            have HN2:Hid (RpS w w2 v2 (n+el.length) (acc++[z])):=by
             refine ⟨by rw [HTX.out,List.length_append,HLn.out],?_,hB1.out.grown hgrow2 hBw1 (q2L hown1)⟩;rw [HTX.out,Lib.byteCells_append];exact hown2
            subst hv2;clear hown2 hgrow2 hnn hown1 hcells hone hnl HS KEY;go_wp2_with fail;go_roundw
            case rel=>exact ⟨p',n+el.length,so2,sc2,acc++[z],hple,by omega,by first|rfl|go_num,by first|rfl|go_num,HRN,HN2⟩
            case measure=>simp [intOf];omega
        · have HF:Hid (R=([],i,false,c)):=by have h:=HRE.out;rw [if_neg hc] at h;exact h
          have hcb:(((c:Nat):Int)==0)=false:=by rw [bqZ];omega
          have hcn:¬ ((c:Nat):Int)=0:=by omega
          have HBF:=hQz HS.out.below;clear HOK HRE HS;rcases W1 with W1|⟨j1,_,j40⟩
          · skip
            go_wp2_with fail;refine (HEi.out _).mono ?_;rintro e wq ⟨rfl,hwq⟩;obtain rfl:=hwq.symm;go_wp2_with fail;(try simp only [Exit.inBlock,Exit.then])
            refine bodyPost_ret (v:= .tuple #[.int .i64 (i:Int),.bool false,.string ⟨#[]⟩,.int .i64 (c:Int)]) (by simp [results,Tryz.results14,go_sem];try rfl) rfl ?_;exact rpR_mk HF.out rfl rfl rfl HBF.out
          · skip
            have j1i:(i:Int)+1<(s.size:Int):=by omega
            have j0:(0:Int)≤(i:Int)+1:=by omega
            have k40:¬ ((s[i+1].toNat:Nat):Int)=40:=by omega
            clear j40;go_wp2_with fail;refine (HEi.out _).mono ?_;rintro e wq ⟨rfl,hwq⟩;obtain rfl:=hwq.symm;go_wp2_with fail;(try simp only [Exit.inBlock,Exit.then])
            refine bodyPost_ret (v:= .tuple #[.int .i64 (i:Int),.bool false,.string ⟨#[]⟩,.int .i64 (c:Int)]) (by simp [results,Tryz.results14,go_sem];try rfl) rfl ?_;exact rpR_mk HF.out rfl rfl rfl HBF.out
    have hin:inwB l i=false:=by
     cases hw:inwB l i with
     | false=>rfl
     | true=>
      obtain ⟨r,hr⟩:=q2o.1 hw;rw [q0M hil,HG.out i hlt] at hr;have:=(List.cons.inj hr).1;rw [this] at h92;exact absurd rfl h92
    have HRD2:Hid _:=hQz (by have h:=HRD1.out;rw [if_neg (by rw [hin];decide),if_neg h92] at h;exact h);have n92:¬ ((s[i].toNat:Nat):Int)=92:=by omega
    clear HRD HRD1 hin;by_cases h32:s[i].toNat<32
    · have HF:Hid (R=([],i,false,22)):=by have h:=HRD2.out;rw [if_pos h32] at h;exact h
      have k32:((s[i].toNat:Nat):Int)<32:=by omega
      have HBF:=hQz HS.out.below;clear h34 h92 h32 HRD2 HS;go_wp2_with fail;(try simp only [Exit.inBlock,Exit.then])
      refine bodyPost_ret (v:= .tuple #[.int .i64 (i:Int),.bool false,.string ⟨#[]⟩,.int .i64 22]) (by simp [results,Tryz.results14,go_sem];try rfl) rfl ?_;exact rpR_mk HF.out rfl rfl rfl HBF.out
    have n32:¬ ((s[i].toNat:Nat):Int)<32:=by omega
    have HRD3:Hid (R=if q0p (l.drop i)=true then ([],i,false,20) else rpc l (l.length+1) (i+(decL (l.drop i)).2) (acc++[(decL (l.drop i)).1])):=by have h:=HRD2.out;rw [if_neg h32] at h;exact h
    obtain ⟨to,hto⟩:∃ to,to=min (i+4) s.size:=⟨_,rfl⟩;have hdw:=dec_win (to:=to) hil (by rw [HL.out];exact hto);have htos:to≤s.size:=by omega
    have hit:i<to:=by omega
    have hX:=HXb.out i to htos;have hXe:cut l i to=(l.drop i).take (to-i):=rfl;rw [hXe] at hX
    have hXne:(s.extract i to).data.toList≠[]:=fun e=>by
     rw [hX] at e;have:=congrArg List.length e;rw [List.length_take,List.length_drop,HL.out] at this;simp at this;omega
    have hnp:=runes_pos hXne;have hXs:(s.extract i to).size≤s.size:=by rw [ByteArray.size_extract];omega
    have HPc:=hQz (fun u=>w_Pieces (s.extract i to) u (by omega));generalize (q29 (s.extract i to).data.toList).length=np at *;obtain ⟨rr,hrr⟩:=prow_first (s.extract i to) np hnp;have hoff:off (s.extract i to).data.toList 0=0:=rfl;rw [hoff,List.drop_zero,Nat.zero_add,hX,hdw.1,hdw.2] at hrr;have HRR:=hQz hrr;have hdp:=q1d (l.drop i);have hdl:=q2p (l.drop i) (fun e=>by have:=congrArg List.length e;rw [List.length_drop] at this;simp at this;omega);rw [List.length_drop,HL.out] at hdl;have HRB:=hQz (fun h=>rune_bytes (l:=l) (i:=i) hil h);have HTX:=hQz (txt_snoc acc (decL (l.drop i)).1)
    have hdsz:q0p (l.drop i)=false→(decL (l.drop i)).2=(enc (decL (l.drop i)).1).length:=fun h=>by
     have h1:=(rune_bytes hil h).1;have:=congrArg List.length h1;unfold cut at this;rw [List.length_take,List.length_drop,HL.out] at this;omega
    have HDS:=hQz hdsz;have hen:=enc_len (decL (l.drop i)).1;have HXC:=hQz (HXb.out i (i+(decL (l.drop i)).2) (by omega));clear hrr hX hXe hXne hdw hdsz HRD2;generalize hdd:decL (l.drop i)=dd at *;obtain ⟨r,sz⟩:=dd;dsimp only at HRR hdp hdl HRB HTX HDS hen HXC HRD3;generalize q0p (l.drop i)=st at *;clear hdd h34 h92 h32;have hTO:(i:Int)+4≤(s.size:Int)∧to=i+4∨(s.size:Int)<(i:Int)+4∧to=s.size:=by omega
    have HPX:=hQz (fun (u:World)=>(HPc.out u));clear HPc hto htos hit;rcases hTO with ⟨t1,rfl⟩|⟨t1,rfl⟩
    · have t2:¬ (s.size:Int)<(i:Int)+4:=by omega
      have t3:(i:Int)≤(i:Int)+4:=by omega
      go_wp2_with fail;refine (HPX.out _).mono ?_;rintro e w1 ⟨po,pc,rfl,HPR,hb1⟩;have hown1:=q1G HS.out.own hb1;have HB1:=hQz (HS.out.below.trans (hb1.mono HS.out.below.size));have hBw1:=HB1.out.size
      obtain ⟨gp,rfl,hgp⟩:∃ gp,po=some ⟨gp,0,none⟩∧gp<w1.heap.size:=by
       rcases HPR.out.2 with ⟨h1,h0⟩|⟨g,cap,cur,h1,_,h3,_⟩
       · omega
       · simp only [Value.slice.injEq] at h1;exact ⟨g,h1.1,(Array.getElem?_eq_some_iff.1 h3).1⟩
      have hpcap:np≤pc:=by
       rcases HPR.out.2 with ⟨h1,h0⟩|⟨g,cap,cur,h1,_,h3,h4,_⟩
       · cases h1
       · simp only [Value.slice.injEq] at h1;obtain ⟨_,_,rfl⟩:=h1;exact h4
      have hpcell:∀ j u,(prow (s.extract i (i+4)) np)[j]? =some u→w1.cell? ((⟨gp,0,none⟩:Addr).add j)=some u:=HPR.out.cells (g:=gp) rfl;rw [HRR.out] at hpcell;have p0:w1.cell? ⟨gp,0,none⟩=some (.int .i64 0):=hpcell 0 _ rfl;have p1:w1.cell? ⟨gp,1,none⟩=some (.int .i64 (sz:Int)):=hpcell 1 _ rfl;have p2:w1.cell? ⟨gp,2,none⟩=some (.int .i64 (r:Int)):=hpcell 2 _ rfl;have p3:w1.cell? ⟨gp,3,none⟩=some (.bool st):=hpcell 3 _ rfl;have hnp1:(0:Int)<(np:Int):=by omega
      have HLn:=hQz HS.out.len;have HROL:Hid (∀ g,(Value.slice so n sc).ownBlock=some g→g<w1.heap.size):=q0W hown1;clear hb1 hpcell HPR HRR;have hbx:=q0a w1 (.cells #[.int .i64 0,.int .i64 (sz:Int),.int .i64 (r:Int),.bool st] 69);have hxb:=heap_alloc_new w1 (.cells #[.int .i64 0,.int .i64 (sz:Int),.int .i64 (r:Int),.bool st] 69);go_upto_region 22 with fail;obtain ⟨W2,hW2⟩:∃ W2,w1.alloc (.cells #[.int .i64 0,.int .i64 (sz:Int),.int .i64 (r:Int),.bool st] 69)=W2:=⟨_,rfl⟩;rw [hW2] at hbx hxb ⊢;have hown2:=q1G hown1 hbx;have HB2:=hQz (HB1.out.trans (hbx.mono HB1.out.size));have hBw2:=HB2.out.size;obtain ⟨x0,x1,x2,x3,_⟩:=q02 hxb;have HXB:=hQz hxb;have hxl:=(Array.getElem?_eq_some_iff.1 hxb).1;clear hW2 hbx hxb p0 p1 p2 p3 hown1
      cases st with
      | true=>
       have HF:Hid (R=([],i,false,20)):=by have h:=HRD3.out;rw [if_pos rfl] at h;exact h
       clear HRD3 HDS HRB;go_wp2_with fail;(try simp only [Exit.inBlock,Exit.then])
       refine bodyPost_ret (v:= .tuple #[.int .i64 (i:Int),.bool false,.string ⟨#[]⟩,.int .i64 20]) (by simp [results,Tryz.results14,go_sem];try rfl) rfl ?_;exact rpR_mk HF.out rfl rfl rfl HB2.out
      | false=>
       have HRN:Hid (R=rpc l (l.length+1) (i+sz) (acc++[r])):=by have h:=HRD3.out;rw [if_neg (by decide)] at h;exact h
       have hsz:=HDS.out rfl;have hxs:(s.extract i (i+sz)).size=sz:=by rw [ByteArray.size_extract];omega
       have HC:Hid (Lib.strCells (s.extract i (i+sz))=Lib.byteCells (enc r)):=by
        show Lib.byteCells (s.extract i (i+sz)).data.toList=_;rw [HXC.out,(HRB.out rfl).1]
       have j0:(i:Int)≤(i:Int)+(sz:Int):=by omega
       have j1:(i:Int)+(sz:Int)≤(s.size:Int):=by omega
       have hsz4:sz≤4:=by omega
       clear HRD3 HDS HRB HXC hsz;have HXS:=hQz hxs;clear hxs;go_wp2_with (at_builtin;refine Lib.wpList_append_own_string _ rfl _ _ 64 9 rfl w.heap.size 5 i0 Tryz.underlying64 Tryz.underlying9 hi0 hz0 hz1 hz2 _ _ _ rfl hown2 (s.extract i (i+sz)) rfl (by rw [HXS.out];unfold maxLen;omega) (by rw [HXS.out];omega) hBw2 ?_);intro v5 w5 hown5 hgrow5 hnn;obtain ⟨so5,sc5,hv5⟩:=q2i hown5;have hX5:=(hgrow5.block w1.heap.size hxl (fun e=>absurd (HROL.out _ e.symm) (Nat.lt_irrefl _))).trans HXB.out;obtain ⟨y0,y1,y2,y3,_⟩:=q02 hX5;have hmn:min (i+sz) s.size-i=sz:=by omega
       rw [hmn] at hown5 hv5;clear hmn
       have HN5:Hid (RpS w w5 v5 (n+sz) (acc++[r])):=by
        have he:(enc r).length=sz:=by
         have:=congrArg List.length HC.out;have h1:(Lib.strCells (s.extract i (i+sz))).length=(s.extract i (i+sz)).size:=by show (Lib.byteCells (s.extract i (i+sz)).data.toList).length=_;simp only [Lib.byteCells,List.length_map];exact q08 _
         rw [h1,HXS.out] at this;simpa [Lib.byteCells] using this.symm
        refine ⟨by rw [HTX.out,List.length_append,HLn.out,he],?_,HB2.out.grown hgrow5 hBw2 (q2L hown2)⟩;rw [HTX.out,Lib.byteCells_append,← HC.out];exact hown5
       subst hv5;clear hown5 hgrow5 hnn hown2 hX5 x0 x1 x2 x3 HS;go_wp2_with fail;go_roundw
       case rel=>exact ⟨i+sz,n+sz,so5,sc5,acc++[r],by omega,by omega,by first|rfl|go_num,by first|rfl|go_num,HRN,HN5⟩
       case measure=>simp [intOf];omega
    · have t2:¬ (i:Int)+4≤(s.size:Int):=by omega
      have t3:(i:Int)≤(s.size:Int):=by omega
      go_wp2_with fail;refine (HPX.out _).mono ?_;rintro e w1 ⟨po,pc,rfl,HPR,hb1⟩;have hown1:=q1G HS.out.own hb1;have HB1:=hQz (HS.out.below.trans (hb1.mono HS.out.below.size));have hBw1:=HB1.out.size
      obtain ⟨gp,rfl,hgp⟩:∃ gp,po=some ⟨gp,0,none⟩∧gp<w1.heap.size:=by
       rcases HPR.out.2 with ⟨h1,h0⟩|⟨g,cap,cur,h1,_,h3,_⟩
       · omega
       · simp only [Value.slice.injEq] at h1;exact ⟨g,h1.1,(Array.getElem?_eq_some_iff.1 h3).1⟩
      have hpcap:np≤pc:=by
       rcases HPR.out.2 with ⟨h1,h0⟩|⟨g,cap,cur,h1,_,h3,h4,_⟩
       · cases h1
       · simp only [Value.slice.injEq] at h1;obtain ⟨_,_,rfl⟩:=h1;exact h4
      have hpcell:∀ j u,(prow (s.extract i s.size) np)[j]? =some u→w1.cell? ((⟨gp,0,none⟩:Addr).add j)=some u:=HPR.out.cells (g:=gp) rfl;rw [HRR.out] at hpcell;have p0:w1.cell? ⟨gp,0,none⟩=some (.int .i64 0):=hpcell 0 _ rfl;have p1:w1.cell? ⟨gp,1,none⟩=some (.int .i64 (sz:Int)):=hpcell 1 _ rfl;have p2:w1.cell? ⟨gp,2,none⟩=some (.int .i64 (r:Int)):=hpcell 2 _ rfl;have p3:w1.cell? ⟨gp,3,none⟩=some (.bool st):=hpcell 3 _ rfl;have hnp1:(0:Int)<(np:Int):=by omega
      have HLn:=hQz HS.out.len;have HROL:Hid (∀ g,(Value.slice so n sc).ownBlock=some g→g<w1.heap.size):=q0W hown1;clear hb1 hpcell HPR HRR;have hbx:=q0a w1 (.cells #[.int .i64 0,.int .i64 (sz:Int),.int .i64 (r:Int),.bool st] 69);have hxb:=heap_alloc_new w1 (.cells #[.int .i64 0,.int .i64 (sz:Int),.int .i64 (r:Int),.bool st] 69);go_upto_region 22 with fail;obtain ⟨W2,hW2⟩:∃ W2,w1.alloc (.cells #[.int .i64 0,.int .i64 (sz:Int),.int .i64 (r:Int),.bool st] 69)=W2:=⟨_,rfl⟩;rw [hW2] at hbx hxb ⊢;have hown2:=q1G hown1 hbx;have HB2:=hQz (HB1.out.trans (hbx.mono HB1.out.size));have hBw2:=HB2.out.size;obtain ⟨x0,x1,x2,x3,_⟩:=q02 hxb;have HXB:=hQz hxb;have hxl:=(Array.getElem?_eq_some_iff.1 hxb).1;clear hW2 hbx hxb p0 p1 p2 p3 hown1
      cases st with
      | true=>
       have HF:Hid (R=([],i,false,20)):=by have h:=HRD3.out;rw [if_pos rfl] at h;exact h
       clear HRD3 HDS HRB;go_wp2_with fail;(try simp only [Exit.inBlock,Exit.then])
       refine bodyPost_ret (v:= .tuple #[.int .i64 (i:Int),.bool false,.string ⟨#[]⟩,.int .i64 20]) (by simp [results,Tryz.results14,go_sem];try rfl) rfl ?_;exact rpR_mk HF.out rfl rfl rfl HB2.out
      | false=>
       have HRN:Hid (R=rpc l (l.length+1) (i+sz) (acc++[r])):=by have h:=HRD3.out;rw [if_neg (by decide)] at h;exact h
       have hsz:=HDS.out rfl;have hxs:(s.extract i (i+sz)).size=sz:=by rw [ByteArray.size_extract];omega
       have HC:Hid (Lib.strCells (s.extract i (i+sz))=Lib.byteCells (enc r)):=by
        show Lib.byteCells (s.extract i (i+sz)).data.toList=_;rw [HXC.out,(HRB.out rfl).1]
       have j0:(i:Int)≤(i:Int)+(sz:Int):=by omega
       have j1:(i:Int)+(sz:Int)≤(s.size:Int):=by omega
       have hsz4:sz≤4:=by omega
       clear HRD3 HDS HRB HXC hsz;have HXS:=hQz hxs;clear hxs;go_wp2_with (at_builtin;refine Lib.wpList_append_own_string _ rfl _ _ 64 9 rfl w.heap.size 5 i0 Tryz.underlying64 Tryz.underlying9 hi0 hz0 hz1 hz2 _ _ _ rfl hown2 (s.extract i (i+sz)) rfl (by rw [HXS.out];unfold maxLen;omega) (by rw [HXS.out];omega) hBw2 ?_);intro v5 w5 hown5 hgrow5 hnn;obtain ⟨so5,sc5,hv5⟩:=q2i hown5;have hX5:=(hgrow5.block w1.heap.size hxl (fun e=>absurd (HROL.out _ e.symm) (Nat.lt_irrefl _))).trans HXB.out;obtain ⟨y0,y1,y2,y3,_⟩:=q02 hX5;have hmn:min (i+sz) s.size-i=sz:=by omega
       rw [hmn] at hown5 hv5;clear hmn
       have HN5:Hid (RpS w w5 v5 (n+sz) (acc++[r])):=by
        have he:(enc r).length=sz:=by
         have:=congrArg List.length HC.out;have h1:(Lib.strCells (s.extract i (i+sz))).length=(s.extract i (i+sz)).size:=by show (Lib.byteCells (s.extract i (i+sz)).data.toList).length=_;simp only [Lib.byteCells,List.length_map];exact q08 _
         rw [h1,HXS.out] at this;simpa [Lib.byteCells] using this.symm
        refine ⟨by rw [HTX.out,List.length_append,HLn.out,he],?_,HB2.out.grown hgrow5 hBw2 (q2L hown2)⟩;rw [HTX.out,Lib.byteCells_append,← HC.out];exact hown5
       subst hv5;clear hown5 hgrow5 hnn hown2 hX5 x0 x1 x2 x3 HS;go_wp2_with fail;go_roundw
       case rel=>exact ⟨i+sz,n+sz,so5,sc5,acc++[r],by omega,by omega,by first|rfl|go_num,by first|rfl|go_num,HRN,HN5⟩
       case measure=>simp [intOf];omega
  · have hi1:¬ (i:Int)<(s.size:Int):=by omega
    have HF:Hid (R=([],s.size,false,21)):=by
     have h:=HRi.out;rw [rpc_out (by rw [HL.out];exact hlt),HL.out] at h;exact h
    have HBF:=hQz HS.out.below;clear HRi HS;go_wp2_with fail;(try simp only [Exit.inBlock,Exit.then])
    refine bodyPost_ret (v:= .tuple #[.int .i64 (s.size:Int),.bool false,.string ⟨#[]⟩,.int .i64 21]) (by simp [results,Tryz.results14,go_sem];try rfl) rfl ?_;exact rpR_mk HF.out rfl rfl rfl HBF.out
end Go.Proofs.YtbpopnafcpfifaaGreatDoor
