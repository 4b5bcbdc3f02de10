import Derived.Test.YtdjleoglphgdgaaGreatDoorM28
import Derived.Test.YtdjleoglphgdgaaGreatDoorM24
import Derived.BigQuiet
import Derived.Lib.QuietBelow
import Derived.Test.YtdjleoglphgdgaaGreatDoorM29
set_option linter.unusedVariables false
set_option linter.unusedSimpArgs false
namespace Go.Proofs.YtdjleoglphgdgaaGreatDoor
open Go.RowKit
set_option maxRecDepth 100000
set_option maxHeartbeats 12800000
theorem escL_at0 {l:List UInt8} {k:Nat} (h:¬ (escL l k).2.2=0):(escL l k).2.1=k:=by
 unfold escL at h ⊢
 cases h1:q0E (l.drop k) with
 | some r=>rw [h1] at h;exact absurd rfl h
 | none=>
  rw [h1] at h
  cases h2:numL (l.drop k) with
  | none=>rfl
  | some n=>
   rw [h2] at h;dsimp only at h ⊢;by_cases h3:n<55296∨57344≤n
   · rw [if_pos h3] at h;exact absurd rfl h
   · rw [if_neg h3] at h ⊢
     cases h4:numL (l.drop (k+6)) with
     | none=>rfl
     | some m=>
      rw [h4] at h;dsimp only at h ⊢;by_cases h5:n<56320∧56320≤m∧m<57344
      · rw [if_pos h5] at h;exact absurd rfl h
      · rw [if_neg h5]
theorem unqL_place (l:List UInt8):∀ (n p:Nat) (acc:List Nat),l.length-p≤n→p≤l.length→(unqL l p acc).2.1≤l.length:=by
 intro n
 induction n with
 | zero=>
  intro p acc hn hp;rw [q1Q acc (by omega)];exact Nat.le_refl _
 | succ n ih=>
  intro p acc hn hp;by_cases hlt:p<l.length
  · rw [unqL,dif_pos hlt]
    split
    · show p+1≤_;omega
    · split
      · exact hp
      · split
        · exact hp
        · split
          · split
            · next h5=>
              obtain ⟨e1,e2,_⟩:=escL_ok h5;rw [if_pos e1];exact ih _ _ (by omega) e2
            · next h5=>show (escL l p).2.1≤_;rw [escL_at0 h5];exact hp
          · have hz:=q1D (l.drop p);have hst:=decL_le (l.drop p) (fun e=>by have:=congrArg List.length e;rw [List.length_drop] at this;simp at this;omega);rw [List.length_drop] at hst;rw [if_pos (by omega)];exact ih _ _ (by omega) (by omega)
  · rw [q1Q acc hlt];exact Nat.le_refl _
theorem litW_len (x:List UInt8) (b:Bool):(litW x b).length≤x.length+2∧0<(litW x b).length:=by
 unfold litW
 cases b <;> simp
theorem below_low {w w':World} {n:Nat} (h:w'=w):Below n w w':=by rw [h];exact Below.refl _ _
theorem two_set {W wz:World} {X:Nat} {t:TypeId} {y0 y1 y2 y3:Value} (a0 a2:Value) (h:W.heap[X]? =some (.cells #[y0,y1,y2,y3] t (0,0))) (hz:wz=(W.setCell ⟨X,0,none⟩ a0).setCell ⟨X,2,none⟩ a2):
 wz.heap[X]? =some (.cells #[a0,y1,a2,y3] t (0,0))∧(∀ b,b≠X→wz.heap[b]? =W.heap[b]?)∧wz.heap.size=W.heap.size∧∀ n,n≤X→Below n W wz:=by
 subst hz
 have e:∀ (u:World) (c:Array Value) (i:Nat) (v:Value),u.heap[X]? =some (.cells c t (0,0))→(u.setCell ⟨X,i,none⟩ v).heap[X]? =some (.cells (c.setIfInBounds i v) t (0,0)):=fun u c i v hu=>by
  show (u.heap.modify X _)[X]? =_;rw [Array.getElem?_modify,if_pos rfl,hu];rfl
 refine ⟨e _ _ 2 a2 (e _ _ 0 a0 h),fun b hb=> ?_,by simp,fun n hn=> ?_⟩
 · rw [Below.heap_setCell _ _ _ _ hb,Below.heap_setCell _ _ _ _ hb]
 · exact ((Below.refl n W).setCell (p:=⟨X,0,none⟩) hn _).setCell (p:=⟨X,2,none⟩) hn _
theorem w_cText (B C:Nat) (s:ByteArray) (p:Nat) (v:Value) (op:List Nat) (w:World) (hp:p<s.size) (hs:s.size≤1073741824) (hC:CtW B C s v op w) (hB:B≤C) (hln:op.length≤1099511627776) (hE:ErrIn w):
 Calls Tryz.prog 103 #[.pointer (some ⟨C,0,none⟩),.int .i64 (p:Int),.int .i64 6,.int .i64 7] w fun e w'=>CtP B C s v op (q1g s.data.toList p 6 7) w w' e:=by
 have HPE:=hQz (fun u=>w_pieceEnd s (p+1) u (by omega) (by omega));rw [show ((p+1:Nat):Int)=(p:Int)+1 by omega] at HPE;have hpe:=peW_ge (l:=s.data.toList) (p:=p+1) (by rw [q0d];omega)
 have HPX:Hid (∀ u,Calls Tryz.prog 124 #[.string (s.extract (peW s.data.toList (p+1)) s.size),.string ⟨#[92,40]⟩] u fun e w'=>e= .returned (.bool (inwB s.data.toList (peW s.data.toList (p+1))))∧w'=u):=fun u=>by
  have:=Tryz.strings_HasPrefix (s.extract (peW s.data.toList (p+1)) s.size) ⟨#[92,40]⟩ u;rw [q0M] at this;exact this
 have hX0:=q1W s (p+1) (peW s.data.toList (p+1)) (by rw [← q0d];exact hpe.2);unfold q1g pcU;rw [q0d] at hpe ⊢;generalize inwB s.data.toList (peW s.data.toList (p+1))=iw at *;generalize peW s.data.toList (p+1)=E at *;obtain ⟨hpq,hqs⟩:=hpe;obtain ⟨b,hb⟩:∃ b,decide ((E:Int)<(s.size:Int))=b:=⟨_,rfl⟩;have hb2:decide (E<s.size)=b:=by rw [← hb];exact decide_eq_decide.2 (by omega)
 rw [← hX0,hb2];have hxl:(s.extract (p+1) E).data.toList.length≤s.size:=by rw [q0d];exact ext_le _ _ _
 have HLt:Hid (∀ u:World,Calls Tryz.prog 152 #[.string (s.extract (p+1) E),.bool b] u fun e w'=>e= .returned (.string ⟨(litW (s.extract (p+1) E).data.toList b).toArray⟩)∧Below u.heap.size u w'):=fun u=>(w_literalW (s.extract (p+1) E) b u (by rw [← q0d];omega)).mono (fun e w' h=>⟨h.1,below_low h.2⟩);have hll:=litW_len (s.extract (p+1) E).data.toList b;have hqp:=unqL_place (litW (s.extract (p+1) E).data.toList b) _ 1 [] (Nat.le_refl _) (by omega)
 have HUn:Hid (∀ u:World,ErrIn u→Calls Tryz.prog 151 #[.string ⟨(litW (s.extract (p+1) E).data.toList b).toArray⟩,.int .i64 0] u fun e w'=>UnqX (unqL (litW (s.extract (p+1) E).data.toList b) 1 []) u w' e):=fun u hu=>
  w_Unquote_ex ⟨(litW (s.extract (p+1) E).data.toList b).toArray⟩ 0 u (by rw [q1F];omega) (by rw [q1F];omega) (by unfold litW;rfl) hu
 generalize litW (s.extract (p+1) E).data.toList b=lt at *;obtain ⟨R,hR⟩:∃ R,unqL lt 1 []=R:=⟨_,rfl⟩;rw [hR] at HUn hqp ⊢;obtain ⟨A,q,c⟩:=R;unfold UnqX at HUn;dsimp only at HUn hqp ⊢;have hq2:q≤1073741826:=by omega
 have HB2:=hQz hb2;clear hR hX0 hb hb2 hxl hll hqp;generalize (⟨lt.toArray⟩:ByteArray)=lb at *;generalize txt A=tl at *;have HC:=hQz hC;have hC0:=hC.keep (q0a w q0c);have hE0:=hE.keep (q0a w q0c);have hX00:=heap_alloc_new w q0c;obtain ⟨w0,hw0⟩:∃ w0,w.alloc q0c=w0:=⟨_,rfl⟩;have hb0:=q0a w q0c;rw [hw0] at hC0 hE0 hX00 hb0;have HB0:=hQz hb0;have HC0:=hQz hC0;have HX0:=hQz hX00;have HE0:=hQz hE0;have c0:=hC0.box.c0;have hj0:(0:Int)≤(p:Int)+1:=by omega
 have hj1:(p:Int)+1≤(E:Int):=by omega
 have hj2:(E:Int)≤(s.size:Int):=by omega
 have hj3:(0:Int)≤(E:Int):=by omega
 have hj4:E≤1073741824:=by omega
 have HW0:=hQz hw0;unfold q0c at HW0;clear hw0 hC0 hE0 hX00 hb0 hC hE;have HL2:Hid (∀ d os,Calls Tryz.prog 152 #[.string (s.extract (p+1) E),.bool b] (Sort.grow (redrawn w0 d) os) fun e w''=>e= .returned (.string lb)∧∃ p:Regrown,w''=Sort.grow (redrawn w0 p.d) p.os):=fun d os=>Calls.regrown_of (HLt.out _);have HU2:Hid (∀ d os,Calls Tryz.prog 151 #[.string lb,.int .i64 0] (Sort.grow (redrawn w0 d) os) fun e w''=>e= .returned (.tuple #[.string ⟨tl.toArray⟩,.int .i64 (q:Int),.int .i64 (c:Int)])∧∃ p:Regrown,w''=Sort.grow (redrawn w0 p.d) p.os):=fun d os=>Calls.regrown_of (HUn.out _ (HE0.out.keep (below_regrown w0 d os)));obtain ⟨tx,htx⟩:∃ tx:ByteArray,(⟨tl.toArray⟩:ByteArray)=tx:=⟨_,rfl⟩;rw [htx] at HU2;have HTX:=hQz htx;clear htx;have R0:=fun d os=>cell_regrown c0 d os;rw [← HB2.out] at HL2;clear HLt HUn;by_cases h0:c=0
 · subst h0;rw [if_pos rfl]
   cases iw with
   | true=>
    rw [if_pos rfl];unfold CtP tokV;dsimp only;rw [HTX.out];have c0l:=(HC.out.box.low (q0a w q0c) HC.out.box.lt).c0;unfold q0c at c0l;go_in;go_wp2_with fail;clear c0l;rw [HW0.out];refine (HPE.out _).mono ?_;rintro e wq ⟨rfl,hwq⟩;obtain rfl:=hwq.symm;go_wp2_with fail;refine wp_region_quiet_below (by kernel_rfl) (by kernel_rfl) ?_
    repeat (go_big_quiet_step (first|exact HL2.out _ _|exact HU2.out _ _))
    refine wpQuiet_nil ?_;intro w1 hw1
    have hb1:Below w0.heap.size w0 w1:=by
     obtain ⟨⟨dq,osq⟩,rfl⟩:=hw1;exact below_regrown w0 dq osq
    clear hw1 R0 c0 HL2 HU2;have HX1:=hQz (q0y hb1 (Array.getElem?_eq_some_iff.1 HX0.out).1 HX0.out);have HC1:=hQz (HC0.out.keep hb1);have HB1:=hQz (HB0.out.trans (hb1.mono HB0.out.size));clear hb1;have cc0:=(HC1.out.box.low (q0a w1 (.cells #[.int .i64 6,.int .i64 (p:Int),.int .i64 ((E:Int)+1),.string tx] 82)) HC1.out.box.lt).c0;go_wp2_with fail;refine (HPX.out _).mono ?_;rintro e wq ⟨rfl,hwq⟩;obtain rfl:=hwq.symm;have hX2:=heap_alloc_new w1 (.cells #[.int .i64 6,.int .i64 (p:Int),.int .i64 ((E:Int)+1),.string tx] 82);have hb2:=q0a w1 (.cells #[.int .i64 6,.int .i64 (p:Int),.int .i64 ((E:Int)+1),.string tx] 82);obtain ⟨W2,hW2⟩:∃ W2,w1.alloc (.cells #[.int .i64 6,.int .i64 (p:Int),.int .i64 ((E:Int)+1),.string tx] 82)=W2:=⟨_,rfl⟩;rw [hW2] at hX2 hb2 ⊢;clear hW2 cc0;obtain ⟨xc0,xc1,xc2,xc3,xf0,xf1,xf2,xf3⟩:=q06 hX2;have HX2:=hQz hX2;have HR2:=hQz (q0y hb2 (Array.getElem?_eq_some_iff.1 HX1.out).1 HX1.out);have HC2:=hQz (HC1.out.keep hb2);have HB2:=hQz (HB1.out.trans (hb2.mono HB1.out.size));have HS2:=hQz hb2.size;have HRX:Hid (w.heap.size<w1.heap.size):=(Array.getElem?_eq_some_iff.1 HX1.out).1;clear hX2 hb2;go_wp2_with fail;obtain ⟨W3,hW3⟩:∃ W3,(W2.setCell ⟨w1.heap.size,0,none⟩ (.int .i64 7)).setCell ⟨w1.heap.size,2,none⟩ (.int .i64 ((E:Int)+2))=W3:=⟨_,rfl⟩;obtain ⟨y1,y2,y3,y4⟩:=two_set (.int .i64 7) (.int .i64 ((E:Int)+2)) HX2.out hW3.symm;rw [hW3];clear hW3 xc0 xc1 xc2 xc3 xf0 xf1 xf2 xf3;have HX3:=hQz y1;have HR3:=hQz ((y2 w.heap.size (Nat.ne_of_lt HRX.out)).trans HR2.out);have HC3:=hQz (HC2.out.other HX2.out y2);have HB3:Hid (Below w.heap.size w W3):=HB2.out.trans (y4 _ (Nat.le_of_lt HRX.out));clear y1 y2 y3 y4;refine (w_enterIn B C s v op _ HC3.out hB hln).mono ?_;rintro e w4 ⟨⟨r4,rfl⟩,⟨v4,hcw⟩,hcl4,hbl⟩;have hX4:=(hcl4.block _ (Array.getElem?_eq_some_iff.1 HX3.out).1 (fun e=>absurd HC1.out.box.lt (by rw [← e];exact Nat.lt_irrefl _)) (fun e=>absurd (q14 HC1.out.row _ e) (Nat.lt_irrefl _))).trans HX3.out;have hR4:=(hcl4.block _ (Array.getElem?_eq_some_iff.1 HR3.out).1 (Nat.ne_of_gt HC.out.box.lt) (fun e=>absurd (q14 HC.out.row _ e) (Nat.lt_irrefl _))).trans HR3.out;obtain ⟨xd0,xd1,xd2,xd3,_⟩:=q06 hX4;obtain ⟨kc0,kc1,kc2,kc3,kf0,kf1,kf2,kf3⟩:=q06 hR4;have HR4:=hQz hR4;have HCW:=hQz hcw;have HCL:=hQz hcl4;have HBL:=hQz hbl
    clear hX4 hR4 hcw hcl4 hbl;go_wp2_with fail;(try simp only [Exit.inBlock,Exit.then])
    generalize hz:((((w4).setCell ⟨w.heap.size,0,none⟩ (.int .i64 7)).setCell ⟨w.heap.size,1,none⟩ (.int .i64 (p:Int))).setCell ⟨w.heap.size,2,none⟩ (.int .i64 ((E:Int)+2))).setCell ⟨w.heap.size,3,none⟩ (.string tx)=wz;obtain ⟨z1,z2,z3,z4⟩:=q0k _ _ _ _ _ _ _ _ _ _ _ HR4.out wz hz.symm;obtain ⟨hd0,hd1,hd2,hd3,_⟩:=q06 z1;refine bodyPost_ret (v:= .tuple #[.agg #[.int .i64 7,.int .i64 (p:Int),.int .i64 ((E:Int)+2),.string tx],.int .i64 0]) (by simp [results,Tryz.results103,go_sem,hd0,hd1,hd2,hd3]) rfl ?_;exact ⟨by first|rfl|simp,q0z HC.out hB HB3.out HCL.out HBL.out HCW.out HR4.out z2 z3 z4⟩
   | false=>
    rw [if_neg (by decide)];unfold CtP tokV;dsimp only;rw [HTX.out];have c0l:=(HC.out.box.low (q0a w q0c) HC.out.box.lt).c0;unfold q0c at c0l;go_in;go_wp2_with fail;clear c0l;rw [HW0.out];refine (HPE.out _).mono ?_;rintro e wq ⟨rfl,hwq⟩;obtain rfl:=hwq.symm;go_wp2_with fail;refine wp_region_quiet_below (by kernel_rfl) (by kernel_rfl) ?_
    repeat (go_big_quiet_step (first|exact HL2.out _ _|exact HU2.out _ _))
    refine wpQuiet_nil ?_;intro w1 hw1
    have hb1:Below w0.heap.size w0 w1:=by
     obtain ⟨⟨dq,osq⟩,rfl⟩:=hw1;exact below_regrown w0 dq osq
    clear hw1 R0 c0 HL2 HU2;have HX1:=hQz (q0y hb1 (Array.getElem?_eq_some_iff.1 HX0.out).1 HX0.out);have HC1:=hQz (HC0.out.keep hb1);have HB1:=hQz (HB0.out.trans (hb1.mono HB0.out.size));clear hb1;have cc0:=(HC1.out.box.low (q0a w1 (.cells #[.int .i64 6,.int .i64 (p:Int),.int .i64 ((E:Int)+1),.string tx] 82)) HC1.out.box.lt).c0;go_wp2_with fail;refine (HPX.out _).mono ?_;rintro e wq ⟨rfl,hwq⟩;obtain rfl:=hwq.symm;have hX2:=heap_alloc_new w1 (.cells #[.int .i64 6,.int .i64 (p:Int),.int .i64 ((E:Int)+1),.string tx] 82);have hb2:=q0a w1 (.cells #[.int .i64 6,.int .i64 (p:Int),.int .i64 ((E:Int)+1),.string tx] 82);obtain ⟨W2,hW2⟩:∃ W2,w1.alloc (.cells #[.int .i64 6,.int .i64 (p:Int),.int .i64 ((E:Int)+1),.string tx] 82)=W2:=⟨_,rfl⟩;rw [hW2] at hX2 hb2 ⊢;clear hW2 cc0;obtain ⟨xc0,xc1,xc2,xc3,xf0,xf1,xf2,xf3⟩:=q06 hX2;have HX2:=hQz hX2;have HR2:=hQz (q0y hb2 (Array.getElem?_eq_some_iff.1 HX1.out).1 HX1.out);have HC2:=hQz (HC1.out.keep hb2);have HB2:=hQz (HB1.out.trans (hb2.mono HB1.out.size));have HS2:=hQz hb2.size;have HRX:Hid (w.heap.size<w1.heap.size):=(Array.getElem?_eq_some_iff.1 HX1.out).1;clear hX2 hb2;go_wp2_with fail;refine (w_enterNo C 6 _ (by decide) (by decide)).mono ?_;rintro e w4 ⟨⟨r4,rfl⟩,hw4⟩;obtain rfl:=hw4.symm;obtain ⟨kc0,kc1,kc2,kc3,kf0,kf1,kf2,kf3⟩:=q06 HR2.out;go_wp2_with fail;(try simp only [Exit.inBlock,Exit.then])
    generalize hz:((((W2).setCell ⟨w.heap.size,0,none⟩ (.int .i64 6)).setCell ⟨w.heap.size,1,none⟩ (.int .i64 (p:Int))).setCell ⟨w.heap.size,2,none⟩ (.int .i64 ((E:Int)+1))).setCell ⟨w.heap.size,3,none⟩ (.string tx)=wz;obtain ⟨z1,z2,z3,z4⟩:=q0k _ _ _ _ _ _ _ _ _ _ _ HR2.out wz hz.symm;obtain ⟨hd0,hd1,hd2,hd3,_⟩:=q06 z1;refine bodyPost_ret (v:= .tuple #[.agg #[.int .i64 6,.int .i64 (p:Int),.int .i64 ((E:Int)+1),.string tx],.int .i64 0]) (by simp [results,Tryz.results103,go_sem,hd0,hd1,hd2,hd3]) rfl ?_;exact ⟨by first|rfl|simp,q0z HC.out hB HB2.out (CtL.refl _ _ _) (Below.refl _ _) HC2.out HR2.out z2 z3 z4⟩
 · rw [if_neg h0];have heb:(((c:Nat):Int)==0)=false:=by rw [bqZ];omega
   have hne:¬ ((c:Nat):Int)=0:=by omega
   have c0l:=(HC.out.box.low (q0a w q0c) HC.out.box.lt).c0;unfold q0c at c0l;go_in;go_wp2_with fail;clear c0l;rw [HW0.out];refine (HPE.out _).mono ?_;rintro e wq ⟨rfl,hwq⟩;obtain rfl:=hwq.symm;go_wp2_with fail;refine wp_region_quiet_below (by kernel_rfl) (by kernel_rfl) ?_
   repeat (go_big_quiet_step (first|exact HL2.out _ _|exact HU2.out _ _))
   refine wpQuiet_nil ?_;intro w1 hw1
   have hb1:Below w0.heap.size w0 w1:=by
    obtain ⟨⟨dq,osq⟩,rfl⟩:=hw1;exact below_regrown w0 dq osq
   clear hw1 R0 c0 HL2 HU2;have HX1:=hQz (q0y hb1 (Array.getElem?_eq_some_iff.1 HX0.out).1 HX0.out);have HC1:=hQz (HC0.out.keep hb1);have HB1:=hQz (HB0.out.trans (hb1.mono HB0.out.size));clear hb1;go_wp2_with fail;refine (w_wfault _ _ _).mono ?_;rintro e w2 ⟨rfl,hb2⟩;have HX:=hQz (q0y hb2 (Array.getElem?_eq_some_iff.1 HX1.out).1 HX1.out);have HB2:=hQz (HB1.out.trans (hb2.mono HB1.out.size));obtain ⟨kc0,kc1,kc2,kc3,kf0,kf1,kf2,kf3⟩:=q06 HX.out;clear hb2;go_wp2_with fail;(try simp only [Exit.inBlock,Exit.then])
   generalize hz:((((w2).setCell ⟨w.heap.size,0,none⟩ (.int .i64 0)).setCell ⟨w.heap.size,1,none⟩ (.int .i64 ((p:Int)+(q:Int)))).setCell ⟨w.heap.size,2,none⟩ (.int .i64 0)).setCell ⟨w.heap.size,3,none⟩ (.string ⟨#[]⟩)=wz;obtain ⟨z1,z2,z3,z4⟩:=q0k _ _ _ _ _ _ _ _ _ _ _ HX.out wz hz.symm;obtain ⟨hd0,hd1,hd2,hd3,_⟩:=q06 z1;refine bodyPost_ret (v:= .tuple #[.agg #[.int .i64 0,.int .i64 ((p:Int)+(q:Int)),.int .i64 0,.string ⟨#[]⟩],.int .i64 (c:Int)]) (by simp [results,Tryz.results103,go_sem,hd0,hd1,hd2,hd3]) rfl ?_;exact q1y HC.out hB rfl ⟨by first|rfl|(unfold tokV;simp),HB2.out.trans (z4 _ (Nat.le_refl _))⟩
theorem w_cMore (B C:Nat) (s:ByteArray) (p:Nat) (v:Value) (op:List Nat) (w:World) (hp:p<s.size) (hs:s.size≤1073741824) (hC:CtW B C s v op w) (hB:B≤C) (hln:op.length≤1099511627776) (hcl:op≠[]) (hE:ErrIn w):
 Calls Tryz.prog 103 #[.pointer (some ⟨C,0,none⟩),.int .i64 (p:Int),.int .i64 9,.int .i64 8] w fun e w'=>CtP B C s v op (q1g s.data.toList p 9 8) w w' e:=by
 have HPE:=hQz (fun u=>w_pieceEnd s (p+1) u (by omega) (by omega));rw [show ((p+1:Nat):Int)=(p:Int)+1 by omega] at HPE;have hpe:=peW_ge (l:=s.data.toList) (p:=p+1) (by rw [q0d];omega)
 have HPX:Hid (∀ u,Calls Tryz.prog 124 #[.string (s.extract (peW s.data.toList (p+1)) s.size),.string ⟨#[92,40]⟩] u fun e w'=>e= .returned (.bool (inwB s.data.toList (peW s.data.toList (p+1))))∧w'=u):=fun u=>by
  have:=Tryz.strings_HasPrefix (s.extract (peW s.data.toList (p+1)) s.size) ⟨#[92,40]⟩ u;rw [q0M] at this;exact this
 have hX0:=q1W s (p+1) (peW s.data.toList (p+1)) (by rw [← q0d];exact hpe.2);unfold q1g pcU;rw [q0d] at hpe ⊢;generalize inwB s.data.toList (peW s.data.toList (p+1))=iw at *;generalize peW s.data.toList (p+1)=E at *;obtain ⟨hpq,hqs⟩:=hpe;obtain ⟨b,hb⟩:∃ b,decide ((E:Int)<(s.size:Int))=b:=⟨_,rfl⟩;have hb2:decide (E<s.size)=b:=by rw [← hb];exact decide_eq_decide.2 (by omega)
 rw [← hX0,hb2];have hxl:(s.extract (p+1) E).data.toList.length≤s.size:=by rw [q0d];exact ext_le _ _ _
 have HLt:Hid (∀ u:World,Calls Tryz.prog 152 #[.string (s.extract (p+1) E),.bool b] u fun e w'=>e= .returned (.string ⟨(litW (s.extract (p+1) E).data.toList b).toArray⟩)∧Below u.heap.size u w'):=fun u=>(w_literalW (s.extract (p+1) E) b u (by rw [← q0d];omega)).mono (fun e w' h=>⟨h.1,below_low h.2⟩);have hll:=litW_len (s.extract (p+1) E).data.toList b;have hqp:=unqL_place (litW (s.extract (p+1) E).data.toList b) _ 1 [] (Nat.le_refl _) (by omega)
 have HUn:Hid (∀ u:World,ErrIn u→Calls Tryz.prog 151 #[.string ⟨(litW (s.extract (p+1) E).data.toList b).toArray⟩,.int .i64 0] u fun e w'=>UnqX (unqL (litW (s.extract (p+1) E).data.toList b) 1 []) u w' e):=fun u hu=>
  w_Unquote_ex ⟨(litW (s.extract (p+1) E).data.toList b).toArray⟩ 0 u (by rw [q1F];omega) (by rw [q1F];omega) (by unfold litW;rfl) hu
 generalize litW (s.extract (p+1) E).data.toList b=lt at *;obtain ⟨R,hR⟩:∃ R,unqL lt 1 []=R:=⟨_,rfl⟩;rw [hR] at HUn hqp ⊢;obtain ⟨A,q,c⟩:=R;unfold UnqX at HUn;dsimp only at HUn hqp ⊢;have hq2:q≤1073741826:=by omega
 have HB2:=hQz hb2;clear hR hX0 hb hb2 hxl hll hqp;generalize (⟨lt.toArray⟩:ByteArray)=lb at *;generalize txt A=tl at *;have HC:=hQz hC;have hC0:=hC.keep (q0a w q0c);have hE0:=hE.keep (q0a w q0c);have hX00:=heap_alloc_new w q0c;obtain ⟨w0,hw0⟩:∃ w0,w.alloc q0c=w0:=⟨_,rfl⟩;have hb0:=q0a w q0c;rw [hw0] at hC0 hE0 hX00 hb0;have HB0:=hQz hb0;have HC0:=hQz hC0;have HX0:=hQz hX00;have HE0:=hQz hE0;have c0:=hC0.box.c0;have hj0:(0:Int)≤(p:Int)+1:=by omega
 have hj1:(p:Int)+1≤(E:Int):=by omega
 have hj2:(E:Int)≤(s.size:Int):=by omega
 have hj3:(0:Int)≤(E:Int):=by omega
 have hj4:E≤1073741824:=by omega
 have HW0:=hQz hw0;unfold q0c at HW0;clear hw0 hC0 hE0 hX00 hb0 hC hE;have HL2:Hid (∀ d os,Calls Tryz.prog 152 #[.string (s.extract (p+1) E),.bool b] (Sort.grow (redrawn w0 d) os) fun e w''=>e= .returned (.string lb)∧∃ p:Regrown,w''=Sort.grow (redrawn w0 p.d) p.os):=fun d os=>Calls.regrown_of (HLt.out _);have HU2:Hid (∀ d os,Calls Tryz.prog 151 #[.string lb,.int .i64 0] (Sort.grow (redrawn w0 d) os) fun e w''=>e= .returned (.tuple #[.string ⟨tl.toArray⟩,.int .i64 (q:Int),.int .i64 (c:Int)])∧∃ p:Regrown,w''=Sort.grow (redrawn w0 p.d) p.os):=fun d os=>Calls.regrown_of (HUn.out _ (HE0.out.keep (below_regrown w0 d os)));obtain ⟨tx,htx⟩:∃ tx:ByteArray,(⟨tl.toArray⟩:ByteArray)=tx:=⟨_,rfl⟩;rw [htx] at HU2;have HTX:=hQz htx;clear htx;have R0:=fun d os=>cell_regrown c0 d os;rw [← HB2.out] at HL2;clear HLt HUn;by_cases h0:c=0
 · subst h0;rw [if_pos rfl]
   cases iw with
   | true=>
    rw [if_pos rfl];unfold CtP tokV;dsimp only;rw [HTX.out];have c0l:=(HC.out.box.low (q0a w q0c) HC.out.box.lt).c0;unfold q0c at c0l;go_in;go_wp2_with fail;clear c0l;rw [HW0.out];refine (HPE.out _).mono ?_;rintro e wq ⟨rfl,hwq⟩;obtain rfl:=hwq.symm;go_wp2_with fail;refine wp_region_quiet_below (by kernel_rfl) (by kernel_rfl) ?_
    repeat (go_big_quiet_step (first|exact HL2.out _ _|exact HU2.out _ _))
    refine wpQuiet_nil ?_;intro w1 hw1
    have hb1:Below w0.heap.size w0 w1:=by
     obtain ⟨⟨dq,osq⟩,rfl⟩:=hw1;exact below_regrown w0 dq osq
    clear hw1 R0 c0 HL2 HU2;have HX1:=hQz (q0y hb1 (Array.getElem?_eq_some_iff.1 HX0.out).1 HX0.out);have HC1:=hQz (HC0.out.keep hb1);have HB1:=hQz (HB0.out.trans (hb1.mono HB0.out.size));clear hb1;have cc0:=(HC1.out.box.low (q0a w1 (.cells #[.int .i64 9,.int .i64 (p:Int),.int .i64 ((E:Int)+1),.string tx] 82)) HC1.out.box.lt).c0;go_wp2_with fail;refine (HPX.out _).mono ?_;rintro e wq ⟨rfl,hwq⟩;obtain rfl:=hwq.symm;have hX2:=heap_alloc_new w1 (.cells #[.int .i64 9,.int .i64 (p:Int),.int .i64 ((E:Int)+1),.string tx] 82);have hb2:=q0a w1 (.cells #[.int .i64 9,.int .i64 (p:Int),.int .i64 ((E:Int)+1),.string tx] 82);obtain ⟨W2,hW2⟩:∃ W2,w1.alloc (.cells #[.int .i64 9,.int .i64 (p:Int),.int .i64 ((E:Int)+1),.string tx] 82)=W2:=⟨_,rfl⟩;rw [hW2] at hX2 hb2 ⊢;clear hW2 cc0;obtain ⟨xc0,xc1,xc2,xc3,xf0,xf1,xf2,xf3⟩:=q06 hX2;have HX2:=hQz hX2;have HR2:=hQz (q0y hb2 (Array.getElem?_eq_some_iff.1 HX1.out).1 HX1.out);have HC2:=hQz (HC1.out.keep hb2);have HB2:=hQz (HB1.out.trans (hb2.mono HB1.out.size));have HS2:=hQz hb2.size;have HRX:Hid (w.heap.size<w1.heap.size):=(Array.getElem?_eq_some_iff.1 HX1.out).1;clear hX2 hb2;go_wp2_with fail;obtain ⟨W3,hW3⟩:∃ W3,(W2.setCell ⟨w1.heap.size,0,none⟩ (.int .i64 8)).setCell ⟨w1.heap.size,2,none⟩ (.int .i64 ((E:Int)+2))=W3:=⟨_,rfl⟩;obtain ⟨y1,y2,y3,y4⟩:=two_set (.int .i64 8) (.int .i64 ((E:Int)+2)) HX2.out hW3.symm;rw [hW3];clear hW3 xc0 xc1 xc2 xc3 xf0 xf1 xf2 xf3;have HX3:=hQz y1;have HR3:=hQz ((y2 w.heap.size (Nat.ne_of_lt HRX.out)).trans HR2.out);have HC3:=hQz (HC2.out.other HX2.out y2);have HB3:Hid (Below w.heap.size w W3):=HB2.out.trans (y4 _ (Nat.le_of_lt HRX.out));clear y1 y2 y3 y4;obtain ⟨xd0,xd1,xd2,xd3,_⟩:=q06 HX3.out;refine (w_enterNo C 8 _ (by decide) (by decide)).mono ?_;rintro e w4 ⟨⟨r4,rfl⟩,hw4⟩;obtain rfl:=hw4.symm;obtain ⟨kc0,kc1,kc2,kc3,kf0,kf1,kf2,kf3⟩:=q06 HR3.out;go_wp2_with fail;(try simp only [Exit.inBlock,Exit.then])
    generalize hz:((((W3).setCell ⟨w.heap.size,0,none⟩ (.int .i64 8)).setCell ⟨w.heap.size,1,none⟩ (.int .i64 (p:Int))).setCell ⟨w.heap.size,2,none⟩ (.int .i64 ((E:Int)+2))).setCell ⟨w.heap.size,3,none⟩ (.string tx)=wz;obtain ⟨z1,z2,z3,z4⟩:=q0k _ _ _ _ _ _ _ _ _ _ _ HR3.out wz hz.symm;obtain ⟨hd0,hd1,hd2,hd3,_⟩:=q06 z1;refine bodyPost_ret (v:= .tuple #[.agg #[.int .i64 8,.int .i64 (p:Int),.int .i64 ((E:Int)+2),.string tx],.int .i64 0]) (by simp [results,Tryz.results103,go_sem,hd0,hd1,hd2,hd3]) rfl ?_;exact ⟨by first|rfl|simp,q0z HC.out hB HB3.out (CtL.refl _ _ _) (Below.refl _ _) HC3.out HR3.out z2 z3 z4⟩
   | false=>
    rw [if_neg (by decide)];unfold CtP tokV;dsimp only;rw [HTX.out];have c0l:=(HC.out.box.low (q0a w q0c) HC.out.box.lt).c0;unfold q0c at c0l;go_in;go_wp2_with fail;clear c0l;rw [HW0.out];refine (HPE.out _).mono ?_;rintro e wq ⟨rfl,hwq⟩;obtain rfl:=hwq.symm;go_wp2_with fail;refine wp_region_quiet_below (by kernel_rfl) (by kernel_rfl) ?_
    repeat (go_big_quiet_step (first|exact HL2.out _ _|exact HU2.out _ _))
    refine wpQuiet_nil ?_;intro w1 hw1
    have hb1:Below w0.heap.size w0 w1:=by
     obtain ⟨⟨dq,osq⟩,rfl⟩:=hw1;exact below_regrown w0 dq osq
    clear hw1 R0 c0 HL2 HU2;have HX1:=hQz (q0y hb1 (Array.getElem?_eq_some_iff.1 HX0.out).1 HX0.out);have HC1:=hQz (HC0.out.keep hb1);have HB1:=hQz (HB0.out.trans (hb1.mono HB0.out.size));clear hb1;have cc0:=(HC1.out.box.low (q0a w1 (.cells #[.int .i64 9,.int .i64 (p:Int),.int .i64 ((E:Int)+1),.string tx] 82)) HC1.out.box.lt).c0;go_wp2_with fail;refine (HPX.out _).mono ?_;rintro e wq ⟨rfl,hwq⟩;obtain rfl:=hwq.symm;have hX2:=heap_alloc_new w1 (.cells #[.int .i64 9,.int .i64 (p:Int),.int .i64 ((E:Int)+1),.string tx] 82);have hb2:=q0a w1 (.cells #[.int .i64 9,.int .i64 (p:Int),.int .i64 ((E:Int)+1),.string tx] 82);obtain ⟨W2,hW2⟩:∃ W2,w1.alloc (.cells #[.int .i64 9,.int .i64 (p:Int),.int .i64 ((E:Int)+1),.string tx] 82)=W2:=⟨_,rfl⟩;rw [hW2] at hX2 hb2 ⊢;clear hW2 cc0;obtain ⟨xc0,xc1,xc2,xc3,xf0,xf1,xf2,xf3⟩:=q06 hX2;have HX2:=hQz hX2;have HR2:=hQz (q0y hb2 (Array.getElem?_eq_some_iff.1 HX1.out).1 HX1.out);have HC2:=hQz (HC1.out.keep hb2);have HB2:=hQz (HB1.out.trans (hb2.mono HB1.out.size));have HS2:=hQz hb2.size;have HRX:Hid (w.heap.size<w1.heap.size):=(Array.getElem?_eq_some_iff.1 HX1.out).1;clear hX2 hb2;go_wp2_with fail;refine (w_enterOut B C s v op _ HC2.out hB hln hcl).mono ?_;rintro e w4 ⟨⟨r4,rfl⟩,⟨v4,hcw⟩,hcl4,hbl⟩;have hX4:=(hcl4.block _ (Array.getElem?_eq_some_iff.1 HX2.out).1 (fun e=>absurd HC1.out.box.lt (by rw [← e];exact Nat.lt_irrefl _)) (fun e=>absurd (q14 HC1.out.row _ e) (Nat.lt_irrefl _))).trans HX2.out;have hR4:=(hcl4.block _ (Array.getElem?_eq_some_iff.1 HR2.out).1 (Nat.ne_of_gt HC.out.box.lt) (fun e=>absurd (q14 HC.out.row _ e) (Nat.lt_irrefl _))).trans HR2.out;obtain ⟨xd0,xd1,xd2,xd3,_⟩:=q06 hX4;obtain ⟨kc0,kc1,kc2,kc3,kf0,kf1,kf2,kf3⟩:=q06 hR4;have HR4:=hQz hR4;have HCW:=hQz hcw;have HCL:=hQz hcl4;have HBL:=hQz hbl;clear hX4 hR4 hcw hcl4 hbl;go_wp2_with fail;(try simp only [Exit.inBlock,Exit.then])
    generalize hz:((((w4).setCell ⟨w.heap.size,0,none⟩ (.int .i64 9)).setCell ⟨w.heap.size,1,none⟩ (.int .i64 (p:Int))).setCell ⟨w.heap.size,2,none⟩ (.int .i64 ((E:Int)+1))).setCell ⟨w.heap.size,3,none⟩ (.string tx)=wz;obtain ⟨z1,z2,z3,z4⟩:=q0k _ _ _ _ _ _ _ _ _ _ _ HR4.out wz hz.symm;obtain ⟨hd0,hd1,hd2,hd3,_⟩:=q06 z1;refine bodyPost_ret (v:= .tuple #[.agg #[.int .i64 9,.int .i64 (p:Int),.int .i64 ((E:Int)+1),.string tx],.int .i64 0]) (by simp [results,Tryz.results103,go_sem,hd0,hd1,hd2,hd3]) rfl ?_;exact ⟨by first|rfl|simp,q0z HC.out hB HB2.out HCL.out HBL.out HCW.out HR4.out z2 z3 z4⟩
 · rw [if_neg h0];have heb:(((c:Nat):Int)==0)=false:=by rw [bqZ];omega
   have hne:¬ ((c:Nat):Int)=0:=by omega
   have c0l:=(HC.out.box.low (q0a w q0c) HC.out.box.lt).c0;unfold q0c at c0l;go_in;go_wp2_with fail;clear c0l;rw [HW0.out];refine (HPE.out _).mono ?_;rintro e wq ⟨rfl,hwq⟩;obtain rfl:=hwq.symm;go_wp2_with fail;refine wp_region_quiet_below (by kernel_rfl) (by kernel_rfl) ?_
   repeat (go_big_quiet_step (first|exact HL2.out _ _|exact HU2.out _ _))
   refine wpQuiet_nil ?_;intro w1 hw1
   have hb1:Below w0.heap.size w0 w1:=by
    obtain ⟨⟨dq,osq⟩,rfl⟩:=hw1;exact below_regrown w0 dq osq
   clear hw1 R0 c0 HL2 HU2;have HX1:=hQz (q0y hb1 (Array.getElem?_eq_some_iff.1 HX0.out).1 HX0.out);have HC1:=hQz (HC0.out.keep hb1);have HB1:=hQz (HB0.out.trans (hb1.mono HB0.out.size));clear hb1;go_wp2_with fail;refine (w_wfault _ _ _).mono ?_;rintro e w2 ⟨rfl,hb2⟩;have HX:=hQz (q0y hb2 (Array.getElem?_eq_some_iff.1 HX1.out).1 HX1.out);have HB2:=hQz (HB1.out.trans (hb2.mono HB1.out.size));obtain ⟨kc0,kc1,kc2,kc3,kf0,kf1,kf2,kf3⟩:=q06 HX.out;clear hb2;go_wp2_with fail;(try simp only [Exit.inBlock,Exit.then])
   generalize hz:((((w2).setCell ⟨w.heap.size,0,none⟩ (.int .i64 0)).setCell ⟨w.heap.size,1,none⟩ (.int .i64 ((p:Int)+(q:Int)))).setCell ⟨w.heap.size,2,none⟩ (.int .i64 0)).setCell ⟨w.heap.size,3,none⟩ (.string ⟨#[]⟩)=wz;obtain ⟨z1,z2,z3,z4⟩:=q0k _ _ _ _ _ _ _ _ _ _ _ HX.out wz hz.symm;obtain ⟨hd0,hd1,hd2,hd3,_⟩:=q06 z1;refine bodyPost_ret (v:= .tuple #[.agg #[.int .i64 0,.int .i64 ((p:Int)+(q:Int)),.int .i64 0,.string ⟨#[]⟩],.int .i64 (c:Int)]) (by simp [results,Tryz.results103,go_sem,hd0,hd1,hd2,hd3]) rfl ?_;exact q1y HC.out hB rfl ⟨by first|rfl|(unfold tokV;simp),HB2.out.trans (z4 _ (Nat.le_refl _))⟩
theorem w_tokE (B C:Nat) (s:ByteArray) (p:Nat) (v:Value) (op:List Nat) (w:World) (hp:p<s.size) (hs:s.size≤1073741824) (hC:CtW B C s v op w) (hB:B≤C) (hop:∀ x∈op,x≤1099511627776) (hln:op.length≤1099511627776) (hE:ErrIn w) (hle:leB s[p]=false) (h36:¬ s[p].toNat=36) (h46:¬ s[p].toNat=46) (hdg:dgB s[p]=true):
 Calls Tryz.prog 43 #[.pointer (some ⟨C,0,none⟩),.int .i64 (p:Int)] w fun e w'=>CtP B C s v op (tokW s.data.toList op p) w w' e:=by
 have HLe:=hQz (fun u=>q0X s[p] u);have HDg:=hQz (fun u=>q1d s[p] u);have HNa:=hQz (fun u=>q11 s (p+1) u (by omega) (by omega));rw [show ((p+1:Nat):Int)=(p:Int)+1 by omega] at HNa;have hgd:=q0v hp;have hb0:=q0a w q0c;have hC0:=hC.keep hb0;have hE0:=hE.keep hb0;have c0:=hC0.box.c0;have hX00:=heap_alloc_new w q0c;have HCl:Hid (∀ w0,CtW B C s v op w0→Calls Tryz.prog 104 #[.pointer (some ⟨C,0,none⟩)] w0 fun e w'=>e= .returned (.bool (clsB op))∧w'=w0):=fun w0 h=>q1q B C s v op w0 h hln;have HC:=hQz hC;have HC0:=hQz hC0;have HB0:=hQz hb0;have HE0:=hQz hE0;have HX0:=hQz hX00;unfold q0c at c0;have hi0:(0:Int)≤(p:Int):=by omega
 have hi1:(p:Int)<(s.size:Int):=by omega
 obtain ⟨xi,hxi⟩:∃ xi:Int,((s[p].toNat:Nat):Int)=xi:=⟨_,rfl⟩;rw [hxi] at HLe HDg;have hlt:p<s.data.toList.length:=by rw [q0d];exact hp
 unfold tokW;rw [hgd];clear hC hC0 hE hE0 hb0 hX00;rw [if_neg (by rw [hle];decide)];rw [hle] at HLe;rw [if_neg h36];rw [if_neg (fun h=>h46 h.1)];have i36:¬ xi=36:=by omega
 have i46:¬ xi=46:=by omega
 rw [if_pos hdg];rw [hdg] at HDg;have HM:Hid (Calls Tryz.prog 102 #[.pointer (some ⟨C,0,none⟩),.int .i64 (p:Int)] (w.alloc q0c) fun e w'=>CtP B C s v op (numT16 s.data.toList p) (w.alloc q0c) w' e):=(w_cNumber s p C v _ hp (by omega) HC0.out.box).mono (fun e w' h=>q1y HC0.out hB (open_num _ _ _) h);unfold q0c at HM HC0 HB0 HX0 HE0;clear HCl HNa;generalize numT16 s.data.toList p=t at *;obtain ⟨kd,pa,fi,tx,er⟩:=t;unfold CtP tokV at HM ⊢;dsimp only at HM ⊢;go_in;go_wp2_with fail;refine (HLe.out _).mono ?_;rintro e wq ⟨rfl,hwq⟩;obtain rfl:=hwq.symm;go_wp2_with fail;refine (HDg.out _).mono ?_;rintro e wq ⟨rfl,hwq⟩;obtain rfl:=hwq.symm;go_wp2_with fail;refine HM.out.mono ?_;rintro e w1 ⟨rfl,⟨v1,hcw⟩,hcl1,hbl⟩;have hX1:=(hcl1.block w.heap.size (by simp [q0c]) (Nat.ne_of_gt HC.out.box.lt) (fun e=>absurd (q14 HC.out.row _ e) (Nat.lt_irrefl _))).trans HX0.out;have HX:=hQz hX1;have HCW:=hQz hcw;have HCL:=hQz hcl1;have HBL:=hQz hbl;obtain ⟨kc0,kc1,kc2,kc3,kf0,kf1,kf2,kf3⟩:=q06 hX1;clear hcw hcl1 hbl hX1 c0;go_wp2_with fail;(try simp only [Exit.inBlock,Exit.then])
 generalize hz:((((w1).setCell ⟨w.heap.size,0,none⟩ (.int .i64 (kd:Int))).setCell ⟨w.heap.size,1,none⟩ (.int .i64 (pa:Int))).setCell ⟨w.heap.size,2,none⟩ (.int .i64 (fi:Int))).setCell ⟨w.heap.size,3,none⟩ (.string ⟨tx.toArray⟩)=wz;obtain ⟨z1,z2,z3,z4⟩:=q0k _ _ _ _ _ _ _ _ _ _ _ HX.out wz hz.symm;obtain ⟨hd0,hd1,hd2,hd3,_⟩:=q06 z1;refine bodyPost_ret (v:= .tuple #[.agg #[.int .i64 (kd:Int),.int .i64 (pa:Int),.int .i64 (fi:Int),.string ⟨tx.toArray⟩],.int .i64 (er:Int)]) (by simp [results,Tryz.results43,go_sem,hd0,hd1,hd2,hd3]) rfl ?_;exact ⟨rfl,q0z HC.out hB HB0.out HCL.out HBL.out HCW.out HX.out z2 z3 z4⟩
theorem w_tokF (B C:Nat) (s:ByteArray) (p:Nat) (v:Value) (op:List Nat) (w:World) (hp:p<s.size) (hs:s.size≤1073741824) (hC:CtW B C s v op w) (hB:B≤C) (hop:∀ x∈op,x≤1099511627776) (hln:op.length≤1099511627776) (hE:ErrIn w) (hle:leB s[p]=false) (h36:¬ s[p].toNat=36) (h46:¬ s[p].toNat=46) (hdg:dgB s[p]=false) (h34:s[p].toNat=34):
 Calls Tryz.prog 43 #[.pointer (some ⟨C,0,none⟩),.int .i64 (p:Int)] w fun e w'=>CtP B C s v op (tokW s.data.toList op p) w w' e:=by
 have HLe:=hQz (fun u=>q0X s[p] u);have HDg:=hQz (fun u=>q1d s[p] u);have HNa:=hQz (fun u=>q11 s (p+1) u (by omega) (by omega));rw [show ((p+1:Nat):Int)=(p:Int)+1 by omega] at HNa;have hgd:=q0v hp;have hb0:=q0a w q0c;have hC0:=hC.keep hb0;have hE0:=hE.keep hb0;have c0:=hC0.box.c0;have hX00:=heap_alloc_new w q0c;have HCl:Hid (∀ w0,CtW B C s v op w0→Calls Tryz.prog 104 #[.pointer (some ⟨C,0,none⟩)] w0 fun e w'=>e= .returned (.bool (clsB op))∧w'=w0):=fun w0 h=>q1q B C s v op w0 h hln;have HC:=hQz hC;have HC0:=hQz hC0;have HB0:=hQz hb0;have HE0:=hQz hE0;have HX0:=hQz hX00;unfold q0c at c0;have hi0:(0:Int)≤(p:Int):=by omega
 have hi1:(p:Int)<(s.size:Int):=by omega
 obtain ⟨xi,hxi⟩:∃ xi:Int,((s[p].toNat:Nat):Int)=xi:=⟨_,rfl⟩;rw [hxi] at HLe HDg;have hlt:p<s.data.toList.length:=by rw [q0d];exact hp
 unfold tokW;rw [hgd];clear hC hC0 hE hE0 hb0 hX00;rw [if_neg (by rw [hle];decide)];rw [hle] at HLe;rw [if_neg h36];rw [if_neg (fun h=>h46 h.1)];have i36:¬ xi=36:=by omega
 have i46:¬ xi=46:=by omega
 rw [if_neg (by rw [hdg];decide)];rw [hdg] at HDg;rw [if_pos h34];obtain rfl:34=xi:=by omega
 have HM:Hid (Calls Tryz.prog 103 #[.pointer (some ⟨C,0,none⟩),.int .i64 (p:Int),.int .i64 6,.int .i64 7] (w.alloc q0c) fun e w'=>CtP B C s v op (q1g s.data.toList p 6 7) (w.alloc q0c) w' e):=w_cText B C s p v op _ hp hs HC0.out hB hln HE0.out;unfold q0c at HM HC0 HB0 HX0 HE0;clear HCl HNa;generalize q1g s.data.toList p 6 7=t at *;obtain ⟨kd,pa,fi,tx,er⟩:=t;unfold CtP tokV at HM ⊢;dsimp only at HM ⊢;go_in;go_wp2_with fail;refine (HLe.out _).mono ?_;rintro e wq ⟨rfl,hwq⟩;obtain rfl:=hwq.symm;go_wp2_with fail;refine (HDg.out _).mono ?_;rintro e wq ⟨rfl,hwq⟩;obtain rfl:=hwq.symm;go_wp2_with fail;refine HM.out.mono ?_;rintro e w1 ⟨rfl,⟨v1,hcw⟩,hcl1,hbl⟩;have hX1:=(hcl1.block w.heap.size (by simp [q0c]) (Nat.ne_of_gt HC.out.box.lt) (fun e=>absurd (q14 HC.out.row _ e) (Nat.lt_irrefl _))).trans HX0.out;have HX:=hQz hX1;have HCW:=hQz hcw;have HCL:=hQz hcl1;have HBL:=hQz hbl;obtain ⟨kc0,kc1,kc2,kc3,kf0,kf1,kf2,kf3⟩:=q06 hX1;clear hcw hcl1 hbl hX1 c0;go_wp2_with fail;(try simp only [Exit.inBlock,Exit.then])
 generalize hz:((((w1).setCell ⟨w.heap.size,0,none⟩ (.int .i64 (kd:Int))).setCell ⟨w.heap.size,1,none⟩ (.int .i64 (pa:Int))).setCell ⟨w.heap.size,2,none⟩ (.int .i64 (fi:Int))).setCell ⟨w.heap.size,3,none⟩ (.string ⟨tx.toArray⟩)=wz;obtain ⟨z1,z2,z3,z4⟩:=q0k _ _ _ _ _ _ _ _ _ _ _ HX.out wz hz.symm;obtain ⟨hd0,hd1,hd2,hd3,_⟩:=q06 z1;refine bodyPost_ret (v:= .tuple #[.agg #[.int .i64 (kd:Int),.int .i64 (pa:Int),.int .i64 (fi:Int),.string ⟨tx.toArray⟩],.int .i64 (er:Int)]) (by simp [results,Tryz.results43,go_sem,hd0,hd1,hd2,hd3]) rfl ?_;exact ⟨rfl,q0z HC.out hB HB0.out HCL.out HBL.out HCW.out HX.out z2 z3 z4⟩
theorem w_tokG (B C:Nat) (s:ByteArray) (p:Nat) (v:Value) (op:List Nat) (w:World) (hp:p<s.size) (hs:s.size≤1073741824) (hC:CtW B C s v op w) (hB:B≤C) (hop:∀ x∈op,x≤1099511627776) (hln:op.length≤1099511627776) (hE:ErrIn w) (hle:leB s[p]=false) (h36:¬ s[p].toNat=36) (h46:¬ s[p].toNat=46) (hdg:dgB s[p]=false) (h34:¬ s[p].toNat=34) (h41:s[p].toNat=41) (hcls:clsB op=true):
 Calls Tryz.prog 43 #[.pointer (some ⟨C,0,none⟩),.int .i64 (p:Int)] w fun e w'=>CtP B C s v op (tokW s.data.toList op p) w w' e:=by
 have HLe:=hQz (fun u=>q0X s[p] u);have HDg:=hQz (fun u=>q1d s[p] u);have HNa:=hQz (fun u=>q11 s (p+1) u (by omega) (by omega));rw [show ((p+1:Nat):Int)=(p:Int)+1 by omega] at HNa;have hgd:=q0v hp;have hb0:=q0a w q0c;have hC0:=hC.keep hb0;have hE0:=hE.keep hb0;have c0:=hC0.box.c0;have hX00:=heap_alloc_new w q0c;have HCl:Hid (∀ w0,CtW B C s v op w0→Calls Tryz.prog 104 #[.pointer (some ⟨C,0,none⟩)] w0 fun e w'=>e= .returned (.bool (clsB op))∧w'=w0):=fun w0 h=>q1q B C s v op w0 h hln;have HC:=hQz hC;have HC0:=hQz hC0;have HB0:=hQz hb0;have HE0:=hQz hE0;have HX0:=hQz hX00;unfold q0c at c0;have hi0:(0:Int)≤(p:Int):=by omega
 have hi1:(p:Int)<(s.size:Int):=by omega
 obtain ⟨xi,hxi⟩:∃ xi:Int,((s[p].toNat:Nat):Int)=xi:=⟨_,rfl⟩;rw [hxi] at HLe HDg;have hlt:p<s.data.toList.length:=by rw [q0d];exact hp
 unfold tokW;rw [hgd];clear hC hC0 hE hE0 hb0 hX00;rw [if_neg (by rw [hle];decide)];rw [hle] at HLe;rw [if_neg h36];rw [if_neg (fun h=>h46 h.1)];have i36:¬ xi=36:=by omega
 have i46:¬ xi=46:=by omega
 rw [if_neg (by rw [hdg];decide)];rw [hdg] at HDg;rw [if_neg h34];have i34:¬ xi=34:=by omega
 rw [if_pos ⟨h41,hcls⟩];rw [hcls] at HCl;obtain rfl:41=xi:=by omega
 have HM:Hid (Calls Tryz.prog 103 #[.pointer (some ⟨C,0,none⟩),.int .i64 (p:Int),.int .i64 9,.int .i64 8] (w.alloc q0c) fun e w'=>CtP B C s v op (q1g s.data.toList p 9 8) (w.alloc q0c) w' e):=w_cMore B C s p v op _ hp hs HC0.out hB hln (cls_ne hcls) HE0.out;unfold q0c at HM HC0 HB0 HX0 HE0;clear HNa;generalize q1g s.data.toList p 9 8=t at *;obtain ⟨kd,pa,fi,tx,er⟩:=t;unfold CtP tokV at HM ⊢;dsimp only at HM ⊢;go_in;go_wp2_with fail;refine (HLe.out _).mono ?_;rintro e wq ⟨rfl,hwq⟩;obtain rfl:=hwq.symm;go_wp2_with fail;refine (HDg.out _).mono ?_;rintro e wq ⟨rfl,hwq⟩;obtain rfl:=hwq.symm;go_wp2_with fail;refine (HCl.out _ HC0.out).mono ?_;rintro e wq ⟨rfl,hwq⟩;obtain rfl:=hwq.symm;go_wp2_with fail;refine HM.out.mono ?_;rintro e w1 ⟨rfl,⟨v1,hcw⟩,hcl1,hbl⟩;have hX1:=(hcl1.block w.heap.size (by simp [q0c]) (Nat.ne_of_gt HC.out.box.lt) (fun e=>absurd (q14 HC.out.row _ e) (Nat.lt_irrefl _))).trans HX0.out;have HX:=hQz hX1;have HCW:=hQz hcw;have HCL:=hQz hcl1;have HBL:=hQz hbl;obtain ⟨kc0,kc1,kc2,kc3,kf0,kf1,kf2,kf3⟩:=q06 hX1;clear hcw hcl1 hbl hX1 c0;go_wp2_with fail;(try simp only [Exit.inBlock,Exit.then])
 generalize hz:((((w1).setCell ⟨w.heap.size,0,none⟩ (.int .i64 (kd:Int))).setCell ⟨w.heap.size,1,none⟩ (.int .i64 (pa:Int))).setCell ⟨w.heap.size,2,none⟩ (.int .i64 (fi:Int))).setCell ⟨w.heap.size,3,none⟩ (.string ⟨tx.toArray⟩)=wz;obtain ⟨z1,z2,z3,z4⟩:=q0k _ _ _ _ _ _ _ _ _ _ _ HX.out wz hz.symm;obtain ⟨hd0,hd1,hd2,hd3,_⟩:=q06 z1;refine bodyPost_ret (v:= .tuple #[.agg #[.int .i64 (kd:Int),.int .i64 (pa:Int),.int .i64 (fi:Int),.string ⟨tx.toArray⟩],.int .i64 (er:Int)]) (by simp [results,Tryz.results43,go_sem,hd0,hd1,hd2,hd3]) rfl ?_;exact ⟨rfl,q0z HC.out hB HB0.out HCL.out HBL.out HCW.out HX.out z2 z3 z4⟩
theorem w_tokH (B C:Nat) (s:ByteArray) (p:Nat) (v:Value) (op:List Nat) (w:World) (hp:p<s.size) (hs:s.size≤1073741824) (hC:CtW B C s v op w) (hB:B≤C) (hop:∀ x∈op,x≤1099511627776) (hln:op.length≤1099511627776) (hE:ErrIn w) (hle:leB s[p]=false) (h36:¬ s[p].toNat=36) (h46:¬ s[p].toNat=46) (hdg:dgB s[p]=false) (h34:¬ s[p].toNat=34) (h41:s[p].toNat=41) (hcls:clsB op=false):
 Calls Tryz.prog 43 #[.pointer (some ⟨C,0,none⟩),.int .i64 (p:Int)] w fun e w'=>CtP B C s v op (tokW s.data.toList op p) w w' e:=by
 have HLe:=hQz (fun u=>q0X s[p] u);have HDg:=hQz (fun u=>q1d s[p] u);have HNa:=hQz (fun u=>q11 s (p+1) u (by omega) (by omega));rw [show ((p+1:Nat):Int)=(p:Int)+1 by omega] at HNa;have hgd:=q0v hp;have hb0:=q0a w q0c;have hC0:=hC.keep hb0;have hE0:=hE.keep hb0;have c0:=hC0.box.c0;have hX00:=heap_alloc_new w q0c;have HCl:Hid (∀ w0,CtW B C s v op w0→Calls Tryz.prog 104 #[.pointer (some ⟨C,0,none⟩)] w0 fun e w'=>e= .returned (.bool (clsB op))∧w'=w0):=fun w0 h=>q1q B C s v op w0 h hln;have HC:=hQz hC;have HC0:=hQz hC0;have HB0:=hQz hb0;have HE0:=hQz hE0;have HX0:=hQz hX00;unfold q0c at c0;have hi0:(0:Int)≤(p:Int):=by omega
 have hi1:(p:Int)<(s.size:Int):=by omega
 obtain ⟨xi,hxi⟩:∃ xi:Int,((s[p].toNat:Nat):Int)=xi:=⟨_,rfl⟩;rw [hxi] at HLe HDg;have hlt:p<s.data.toList.length:=by rw [q0d];exact hp
 unfold tokW;rw [hgd];clear hC hC0 hE hE0 hb0 hX00;rw [if_neg (by rw [hle];decide)];rw [hle] at HLe;rw [if_neg h36];rw [if_neg (fun h=>h46 h.1)];have i36:¬ xi=36:=by omega
 have i46:¬ xi=46:=by omega
 rw [if_neg (by rw [hdg];decide)];rw [hdg] at HDg;rw [if_neg h34];have i34:¬ xi=34:=by omega
 rw [if_neg (fun h=>by rw [hcls] at h;exact absurd h.2 (by decide))];rw [hcls] at HCl;obtain rfl:41=xi:=by omega
 have HM:Hid (Calls Tryz.prog 105 #[.pointer (some ⟨C,0,none⟩),.int .i64 (p:Int)] (w.alloc q0c) fun e w'=>CtP B C s v op (markT s.data.toList p) (w.alloc q0c) w' e):=w_cMark B C s p v op _ hp (by omega) HC0.out hB hop hln (fun _=>hcls);unfold q0c at HM HC0 HB0 HX0 HE0;clear HNa;generalize markT s.data.toList p=t at *;obtain ⟨kd,pa,fi,tx,er⟩:=t;unfold CtP tokV at HM ⊢;dsimp only at HM ⊢;go_in;go_wp2_with fail;refine (HLe.out _).mono ?_;rintro e wq ⟨rfl,hwq⟩;obtain rfl:=hwq.symm;go_wp2_with fail;refine (HDg.out _).mono ?_;rintro e wq ⟨rfl,hwq⟩;obtain rfl:=hwq.symm;go_wp2_with fail;refine (HCl.out _ HC0.out).mono ?_;rintro e wq ⟨rfl,hwq⟩;obtain rfl:=hwq.symm;go_wp2_with fail;refine HM.out.mono ?_;rintro e w1 ⟨rfl,⟨v1,hcw⟩,hcl1,hbl⟩;have hX1:=(hcl1.block w.heap.size (by simp [q0c]) (Nat.ne_of_gt HC.out.box.lt) (fun e=>absurd (q14 HC.out.row _ e) (Nat.lt_irrefl _))).trans HX0.out;have HX:=hQz hX1;have HCW:=hQz hcw;have HCL:=hQz hcl1;have HBL:=hQz hbl;obtain ⟨kc0,kc1,kc2,kc3,kf0,kf1,kf2,kf3⟩:=q06 hX1;clear hcw hcl1 hbl hX1 c0;go_wp2_with fail;(try simp only [Exit.inBlock,Exit.then])
 generalize hz:((((w1).setCell ⟨w.heap.size,0,none⟩ (.int .i64 (kd:Int))).setCell ⟨w.heap.size,1,none⟩ (.int .i64 (pa:Int))).setCell ⟨w.heap.size,2,none⟩ (.int .i64 (fi:Int))).setCell ⟨w.heap.size,3,none⟩ (.string ⟨tx.toArray⟩)=wz;obtain ⟨z1,z2,z3,z4⟩:=q0k _ _ _ _ _ _ _ _ _ _ _ HX.out wz hz.symm;obtain ⟨hd0,hd1,hd2,hd3,_⟩:=q06 z1;refine bodyPost_ret (v:= .tuple #[.agg #[.int .i64 (kd:Int),.int .i64 (pa:Int),.int .i64 (fi:Int),.string ⟨tx.toArray⟩],.int .i64 (er:Int)]) (by simp [results,Tryz.results43,go_sem,hd0,hd1,hd2,hd3]) rfl ?_;exact ⟨rfl,q0z HC.out hB HB0.out HCL.out HBL.out HCW.out HX.out z2 z3 z4⟩
theorem w_tokI (B C:Nat) (s:ByteArray) (p:Nat) (v:Value) (op:List Nat) (w:World) (hp:p<s.size) (hs:s.size≤1073741824) (hC:CtW B C s v op w) (hB:B≤C) (hop:∀ x∈op,x≤1099511627776) (hln:op.length≤1099511627776) (hE:ErrIn w) (hle:leB s[p]=false) (h36:¬ s[p].toNat=36) (h46:¬ s[p].toNat=46) (hdg:dgB s[p]=false) (h34:¬ s[p].toNat=34) (h41:¬ s[p].toNat=41):
 Calls Tryz.prog 43 #[.pointer (some ⟨C,0,none⟩),.int .i64 (p:Int)] w fun e w'=>CtP B C s v op (tokW s.data.toList op p) w w' e:=by
 have HLe:=hQz (fun u=>q0X s[p] u);have HDg:=hQz (fun u=>q1d s[p] u);have HNa:=hQz (fun u=>q11 s (p+1) u (by omega) (by omega));rw [show ((p+1:Nat):Int)=(p:Int)+1 by omega] at HNa;have hgd:=q0v hp;have hb0:=q0a w q0c;have hC0:=hC.keep hb0;have hE0:=hE.keep hb0;have c0:=hC0.box.c0;have hX00:=heap_alloc_new w q0c;have HCl:Hid (∀ w0,CtW B C s v op w0→Calls Tryz.prog 104 #[.pointer (some ⟨C,0,none⟩)] w0 fun e w'=>e= .returned (.bool (clsB op))∧w'=w0):=fun w0 h=>q1q B C s v op w0 h hln;have HC:=hQz hC;have HC0:=hQz hC0;have HB0:=hQz hb0;have HE0:=hQz hE0;have HX0:=hQz hX00;unfold q0c at c0;have hi0:(0:Int)≤(p:Int):=by omega
 have hi1:(p:Int)<(s.size:Int):=by omega
 obtain ⟨xi,hxi⟩:∃ xi:Int,((s[p].toNat:Nat):Int)=xi:=⟨_,rfl⟩;rw [hxi] at HLe HDg;have hlt:p<s.data.toList.length:=by rw [q0d];exact hp
 unfold tokW;rw [hgd];clear hC hC0 hE hE0 hb0 hX00;rw [if_neg (by rw [hle];decide)];rw [hle] at HLe;rw [if_neg h36];rw [if_neg (fun h=>h46 h.1)];have i36:¬ xi=36:=by omega
 have i46:¬ xi=46:=by omega
 rw [if_neg (by rw [hdg];decide)];rw [hdg] at HDg;rw [if_neg h34];have i34:¬ xi=34:=by omega
 rw [if_neg (fun h=>h41 h.1)];have i41:¬ xi=41:=by omega
 have HM:Hid (Calls Tryz.prog 105 #[.pointer (some ⟨C,0,none⟩),.int .i64 (p:Int)] (w.alloc q0c) fun e w'=>CtP B C s v op (markT s.data.toList p) (w.alloc q0c) w' e):=w_cMark B C s p v op _ hp (by omega) HC0.out hB hop hln (fun h=>absurd (by have:=mkW_head h hlt;rw [hgd] at this;exact this) h41);unfold q0c at HM HC0 HB0 HX0 HE0;clear HNa HCl;generalize markT s.data.toList p=t at *;obtain ⟨kd,pa,fi,tx,er⟩:=t;unfold CtP tokV at HM ⊢;dsimp only at HM ⊢;go_in;go_wp2_with fail;refine (HLe.out _).mono ?_;rintro e wq ⟨rfl,hwq⟩;obtain rfl:=hwq.symm;go_wp2_with fail;refine (HDg.out _).mono ?_;rintro e wq ⟨rfl,hwq⟩;obtain rfl:=hwq.symm;go_wp2_with fail;refine HM.out.mono ?_;rintro e w1 ⟨rfl,⟨v1,hcw⟩,hcl1,hbl⟩;have hX1:=(hcl1.block w.heap.size (by simp [q0c]) (Nat.ne_of_gt HC.out.box.lt) (fun e=>absurd (q14 HC.out.row _ e) (Nat.lt_irrefl _))).trans HX0.out;have HX:=hQz hX1;have HCW:=hQz hcw;have HCL:=hQz hcl1;have HBL:=hQz hbl;obtain ⟨kc0,kc1,kc2,kc3,kf0,kf1,kf2,kf3⟩:=q06 hX1;clear hcw hcl1 hbl hX1 c0;go_wp2_with fail;(try simp only [Exit.inBlock,Exit.then])
 generalize hz:((((w1).setCell ⟨w.heap.size,0,none⟩ (.int .i64 (kd:Int))).setCell ⟨w.heap.size,1,none⟩ (.int .i64 (pa:Int))).setCell ⟨w.heap.size,2,none⟩ (.int .i64 (fi:Int))).setCell ⟨w.heap.size,3,none⟩ (.string ⟨tx.toArray⟩)=wz;obtain ⟨z1,z2,z3,z4⟩:=q0k _ _ _ _ _ _ _ _ _ _ _ HX.out wz hz.symm;obtain ⟨hd0,hd1,hd2,hd3,_⟩:=q06 z1;refine bodyPost_ret (v:= .tuple #[.agg #[.int .i64 (kd:Int),.int .i64 (pa:Int),.int .i64 (fi:Int),.string ⟨tx.toArray⟩],.int .i64 (er:Int)]) (by simp [results,Tryz.results43,go_sem,hd0,hd1,hd2,hd3]) rfl ?_;exact ⟨rfl,q0z HC.out hB HB0.out HCL.out HBL.out HCW.out HX.out z2 z3 z4⟩
theorem w_token (B C:Nat) (s:ByteArray) (p:Nat) (v:Value) (op:List Nat) (w:World) (hp:p<s.size) (hs:s.size≤1073741824) (hC:CtW B C s v op w) (hB:B≤C) (hop:∀ x∈op,x≤1099511627776) (hln:op.length≤1099511627776) (hE:ErrIn w):
 Calls Tryz.prog 43 #[.pointer (some ⟨C,0,none⟩),.int .i64 (p:Int)] w fun e w'=>CtP B C s v op (tokW s.data.toList op p) w w' e:=by
 cases hle:leB s[p] with
 | true=>exact w_tokA B C s p v op w hp hs hC hB hop hln hE hle
 | false=>
  by_cases h36:s[p].toNat=36
  · exact w_tokB B C s p v op w hp hs hC hB hop hln hE hle h36
  by_cases h46:s[p].toNat=46
  · by_cases hnm:q0A s.data.toList (p+1)=[]
    · exact w_tokD B C s p v op w hp hs hC hB hop hln hE hle h46 hnm
    · exact w_tokC B C s p v op w hp hs hC hB hop hln hE hle h46 hnm
  cases hdg:dgB s[p] with
  | true=>exact w_tokE B C s p v op w hp hs hC hB hop hln hE hle h36 h46 hdg
  | false=>
   by_cases h34:s[p].toNat=34
   · exact w_tokF B C s p v op w hp hs hC hB hop hln hE hle h36 h46 hdg h34
   by_cases h41:s[p].toNat=41
   · cases hcls:clsB op with
     | true=>exact w_tokG B C s p v op w hp hs hC hB hop hln hE hle h36 h46 hdg h34 h41 hcls
     | false=>exact w_tokH B C s p v op w hp hs hC hB hop hln hE hle h36 h46 hdg h34 h41 hcls
   · exact w_tokI B C s p v op w hp hs hC hB hop hln hE hle h36 h46 hdg h34 h41
end Go.Proofs.YtdjleoglphgdgaaGreatDoor
