import Derived.Test.YtdjleoglphgdgaaGreatDoorM39
import Derived.Test.YtdjleoglphgdgaaGreatDoorM41
import Derived.Test.YtdjleoglphgdgaaGreatDoorM43
set_option linter.unusedVariables false
set_option linter.unusedSimpArgs false
namespace Go.Proofs.YtdjleoglphgdgaaGreatDoor
open Go.RowKit Go.Shelf
attribute [local go_sem] Oper.semAt_some
set_option maxRecDepth 100000
set_option maxHeartbeats 12800000
theorem dol_app (l:List UInt8):(⟨#[36]⟩:ByteArray)++(⟨l.toArray⟩:ByteArray)=⟨(36::l).toArray⟩:=by
 apply ByteArray.ext;apply Array.ext';simp
theorem Tryz.infoSt:(Tryz.prog.info? 9).map (fun i=>(i.zero,i.size,i.bytes))=some (some (.string ⟨#[]⟩),1,16):=by kernel_rfl
section
variable (ws:List Tok) (nb:Nat) (P:PM NT)
def q1w:PM NT:=q07 (q1n ws nb [100,101,102]) (fun x=>q07 (pBe ws nb 1) fun y=>q07 (q25 ws nb) fun l=>q07 (q1r ws nb [58]) fun _=>q07 P fun n=>q07 (q0Q ws nb [59]) fun _=>pOk (.mk 32 (x.at_:Int) ⟨y.text.toArray⟩ vtN l [n]))
end
theorem SB.grow {D:Nat→Prop} {w W W':World} {B:Nat} {so:Option Addr} {sc:Nat} {ws:List Tok} {nb t o:Nat} (h:SB false D none w B so sc ws nb t o [] (.slice none 0 0) [] [] W) (h1:W'.os=W.os) (h2:W'.tape=W.tape) (h3:W'.output=W.output) (hz:W.heap.size≤W'.heap.size) (hk:∀ k,k<w.heap.size→W'.heap[k]? =W.heap[k]?):SB false D none w B so sc ws nb t o [] (.slice none 0 0) [] [] W':=by
 have hbo:Bo B none w W':=⟨h1.trans h.bo.os,h2.trans h.bo.tape,h3.trans h.bo.output,Nat.le_trans h.bo.size hz,fun k hk1 a b=>(hk k hk1).trans (h.bo.block k hk1 a b)⟩;obtain ⟨t0,o0,h0⟩:=h.p0;exact ⟨hbo,PX.of0 h0 hbo h.r0k ((hk B h.hB).trans h.px.pat.box) h.px.pat.le h.px.pat.open_,(fun p hp=>by simp at hp),List.Pairwise.nil,⟨[],NRw.nil _ _⟩,(fun g hg=>by cases hg),h.r0k,(fun q hq=>by simp at hq),h.dn,h.db,h.hB,h.p0,(fun _ g hg=>by cases hg)⟩
def NsE (u:World) (ns:List ByteArray) (w':World) (v:Value):Prop:=w'.ownsRow u.heap.size 9 1 v ns.length (ns.map Value.string)∧(∀ k∈ns,k.size≤140737488355328)∧ns.length≤33554432
theorem q2q {w W W':World} {B:Nat} {v:Value} {n:Nat} {xs:List Value} (h:W.ownsRow w.heap.size 9 1 v n xs) (hB:B<w.heap.size) (hb:Bt B W W'):W'.ownsRow w.heap.size 9 1 v n xs:=by
 refine ⟨h.1,?_⟩;rcases h.2 with h0|⟨g,cap,cur,e1,e2,e3,e4⟩
 · exact .inl h0
 · exact .inr ⟨g,cap,cur,e1,e2,(hb.block g (Array.getElem?_eq_some_iff.1 e3).1 (by omega)).trans e3,e4⟩
section
variable {B:Nat} {so:Option Addr} {sc:Nat} {ws:List Tok} {nb:Nat} {m:Nat} {P:PM NT} {O:Nat→PM NT}
theorem parameterX (htx:∀ t,(hrP ws t).text.length≤140737488355000) {t o:Nat} (u:World) (hx:PX u B so sc ws nb t o):Calls Tryz.prog 238 #[.pointer (some ⟨B,0,none⟩)] u fun e w'=>PxR B so sc ws nb u (fun s _ v=>v= .string s) (q1H ws nb t o) e w':=by
 obtain ⟨R,hR⟩:∃ R,q1H ws nb t o=R:=⟨_,rfl⟩;rw [hR];unfold q1H at hR;have HS0:=hQz (SB.new (Fl:=false) (tr:=[]) hx (fun b (hb:u.heap.size≤b)=>hb) (fun b hb=>by have:=hx.pat.lt;omega) (fun q hq=>by simp at hq));have Htx:=hQz (htx t);have hfl3:=Tryz.fldX3;have HR:=hQz hR;clear hR hx htx;obtain ⟨c,hc⟩:∃ c,isP ws 3 t=c:=⟨_,rfl⟩
 cases c with
 | true=>
  have hR:=HR.out;rw [if_pos hc] at hR;replace HR:=hQz hR;clear hR;go_in;go_wp2_with fail;refine (isX 3 hc _ HS0.out.px).mono ?_;rintro e w1 ⟨rfl,hb⟩;have HS1:=hQz (HS0.out.keep hb);clear hb;go_wp2_with fail;refine (q1l (is_lt (by decide) hc) _ HS1.out.px).mono ?_;rintro e w2 ⟨rfl,hb,hp⟩;have HS2:=hQz (HS1.out.step hb hp);clear hb hp;generalize hrP ws t=X at *;obtain ⟨kd,pa,fi,tx,er⟩:=X;unfold tokV;dsimp only at HR Htx ⊢
  have hz1:¬ 9223372036854775807<(⟨#[36]⟩:ByteArray).size+(⟨tx.toArray⟩:ByteArray).size:=by
   have:=Htx.out;show ¬ 9223372036854775807<1+tx.toArray.size;simp;omega
  have hz2:¬ 9223372036854775807<1+tx.length:=by have:=Htx.out;omega
  have hz3:¬ (9223372036854775807:Int)<1+(tx.length:Int):=by have:=Htx.out;omega
  go_wp2_with fail;refine bodyPost_ret (v:= .string ⟨(36::tx).toArray⟩) (by simp [results,Tryz.results238,go_sem,dol_app]) rfl ?_;have hR:=HR.out;refine ⟨HS2.out.bo.toBt,?_⟩;rw [← hR];exact ⟨⟨_,rfl,rfl⟩,HS2.out.px⟩
 | false=>
  have hR:=HR.out;rw [if_neg (by rw [hc];decide)] at hR;replace HR:=hQz hR;clear hR;go_in;go_wp2_with fail;refine (isX 3 hc _ HS0.out.px).mono ?_;rintro e w1 ⟨rfl,hb⟩;have HS1:=hQz (HS0.out.keep hb);clear hb;go_wp2_with fail;refine PxR.on (beX 1 (by decide) _ HS1.out.px) (fun er q w hr hb=>⟨rfl,(HS1.out.bo.trans (Bo.ofBt hb)).toBt,by rw [← HR.out,q04 hr]⟩) ?_;intro x2 t2 o2 v w2 hr hb hp hE;replace HR:=hQz ((q02 hr).symm.trans HR.out);(try dsimp only at HR)
  have HL2:=hQz (mv_be (nb:=nb) (k:=1) (by decide) _ HS1.out.px.pat.le _ _ _ _ hr);have HO2:=hQz (bl_be (nb:=nb) 1 _ _ _ _ _ HS1.out.px.pat.open_ hr);have HQ2:=hQz hr;have HS2:=hQz (HS1.out.step hb hp);clear hb hp hr;unfold TkE at hE;subst hE;obtain ⟨kd2,pa2,fi2,tx2,er2⟩:=x2;unfold tokV;(try dsimp only at HR)
  dsimp only;go_wp2_with fail;refine bodyPost_ret (v:= .string ⟨tx2.toArray⟩) (by simp [results,Tryz.results238,go_sem]) rfl ?_;have hR:=HR.out;refine ⟨HS2.out.bo.toBt,?_⟩;rw [← hR];exact ⟨⟨_,rfl,rfl⟩,HS2.out.px⟩
theorem param_size (htx:∀ t,(hrP ws t).text.length≤140737488355000) {t o t' o':Nat} {x:ByteArray} (h:q1H ws nb t o= .ok x t' o'):x.size≤140737488355328:=by
 unfold q1H at h
 split at h
 · injection h with h;subst h;show (36::(hrP ws t).text).toArray.size≤_;have:=htx t;simp;omega
 · obtain ⟨y,t1,o1,h1,h2⟩:=then_ok h;injection h2 with h2;subst h2;rw [be_eq h1];show (hrP ws t).text.toArray.size≤_;have:=htx t;simp;omega
theorem paramsX (htx:∀ t,(hrP ws t).text.length≤140737488355000) {t o:Nat} (u:World) (hx:PX u B so sc ws nb t o):Calls Tryz.prog 220 #[.pointer (some ⟨B,0,none⟩)] u fun e w'=>PxR B so sc ws nb u (NsE u) (q25 ws nb t o) e w':=by
 obtain ⟨i0,hi0,hz0,hz1,hz2⟩:=info_parts Tryz.infoSt;obtain ⟨R,hR⟩:∃ R,q25 ws nb t o=R:=⟨_,rfl⟩;rw [hR];unfold q25 at hR;have HS0:=hQz (SB.new (Fl:=false) (tr:=[]) hx (fun b (hb:u.heap.size≤b)=>hb) (fun b hb=>by have:=hx.pat.lt;omega) (fun q hq=>by simp at hq));have Htx:=hQz htx;have HX:=hQz (And.intro hx.pat.le (And.intro hx.pat.open_ hx.pat.lt));have HP1:Hid (∀ {t o:Nat} (u:World),PX u B so sc ws nb t o→Calls Tryz.prog 238 #[.pointer (some ⟨B,0,none⟩)] u fun e w'=>PxR B so sc ws nb u (fun s _ v=>v= .string s) (q1H ws nb t o) e w'):=fun u hx=>parameterX htx u hx;have HR:=hQz hR;clear hR hx htx;obtain ⟨c,hc⟩:∃ c,syP ws t [40]=c:=⟨_,rfl⟩
 cases c with
 | false=>
  have hR:=HR.out;rw [if_neg (by rw [hc];decide)] at hR;replace HR:=hQz hR;clear hR;go_in;go_wp2_with fail;refine (q0p [40] hc _ HS0.out.px).mono ?_;rintro e w1 ⟨rfl,hb⟩;have HS1:=hQz (HS0.out.keep hb);clear hb;go_wp2_with fail;refine bodyPost_ret (v:= .slice none 0 0) (by simp [results,Tryz.results220,go_sem]) rfl ?_;have hR:=HR.out;refine ⟨HS1.out.bo.toBt,?_⟩;rw [← hR];exact ⟨⟨_,rfl,⟨rfl,.inl ⟨rfl,rfl⟩⟩,(fun k hk=>by cases hk),Nat.zero_le _⟩,HS1.out.px⟩
 | true=>
  have hR:=HR.out;rw [if_pos hc] at hR;replace HR:=hQz hR;clear hR;go_in;go_wp2_with fail;refine (q0p [40] hc _ HS0.out.px).mono ?_;rintro e w1 ⟨rfl,hb⟩;have HS1:=hQz (HS0.out.keep hb);clear hb;go_wp2_with fail;refine PxR.on (enterX [40] _ HS1.out.px) (fun er q w hr hb=>⟨rfl,(HS1.out.bo.trans (Bo.ofBt hb)).toBt,by rw [← HR.out,q04 hr]⟩) ?_;intro x1 t1 o1 v w2 hr hb hp hE;replace HR:=hQz ((q02 hr).symm.trans HR.out);(try dsimp only at HR)
  have HL2:=hQz (q0I (nb:=nb) [40] _ HS1.out.px.pat.le _ _ _ _ hr);have HO2:=hQz (q0H (nb:=nb) [40] _ _ _ _ _ HS1.out.px.pat.open_ hr);have HQ2:=hQz hr;have HS2:=hQz (HS1.out.step hb hp);clear hb hp hr;unfold TkE at hE;subst hE;obtain ⟨kd1,pa1,fi1,tx1,er1⟩:=x1;unfold tokV;(try dsimp only at HR)
  dsimp only;go_wp2_with fail;refine PxR.on (HP1.out _ HS2.out.px) (fun er q w hr hb=>⟨rfl,(HS2.out.bo.trans (Bo.ofBt hb)).toBt,by rw [← HR.out,q04 hr]⟩) ?_;intro a2 t2 o2 v w3 hr hb hp hE;replace HR:=hQz ((q02 hr).symm.trans HR.out);(try dsimp only at HR)
  have HL3:=hQz (mv_param (ws:=ws) (nb:=nb) _ HS2.out.px.pat.le _ _ _ _ hr);have HO3:=hQz (bl_param (ws:=ws) (nb:=nb) _ _ _ _ _ HS2.out.px.pat.open_ hr);have HQ3:=hQz hr;have HS3:=hQz (HS2.out.step hb hp);clear hb hp hr;(try dsimp only at hE)
  subst hE;have HA2:=hQz (param_size Htx.out HQ3.out);obtain ⟨W4,hW4⟩:∃ W,w3.alloc (.cells #[.string a2] 9)=W:=⟨_,rfl⟩;have HS4:=hQz (HS3.out.keep (q0a w3 (.cells #[.string a2] 9)));rw [hW4] at HS4;have HN0:Hid (W4.ownsRow u.heap.size 9 1 (.slice (some ⟨w3.heap.size,0,none⟩) 1 1) [a2].length ([a2].map Value.string)):=⟨rfl,.inr ⟨w3.heap.size,1,_,rfl,HS3.out.bo.size,by rw [← hW4];exact heap_alloc_new _ _,Nat.le_refl _,by unfold maxLen;omega,rfl,rfl⟩⟩;go_wp2_with fail
  go_loopw [3] (fun b3 wr=>∃ (ns:List ByteArray) (t3 o3 f:Nat),Hid (ws.length<t3+f)∧Hid (SB false (fun b=>u.heap.size≤b) none u B so sc ws nb t3 o3 [] (.slice none 0 0) [] [] wr)∧Hid (wr.ownsRow u.heap.size 9 1 b3 ns.length (ns.map Value.string))∧Hid ((∀ k∈ns,k.size≤140737488355328)∧ns.length≤t3∧t+1≤t3∧o3=o+1)∧Hid (q07 (lpP (fun (l:List ByteArray) t o=>if syP ws t [59] then q07 (q0K ws) (fun _=>q07 (q1H ws nb) fun b=>pOk (.inl (l++[b]))) t o else .ok (.inr l) t o) f ns) (fun l=>q07 (q0Q ws nb [41]) fun _=>pOk l) t3 o3=R)) (fun _ wr=>ws.length+1-tkOf B wr)
  case atStart=>
   refine ⟨[a2],t2,o2,ws.length+1,(by show _<_;omega),HS4,HN0,⟨?_,?_,?_,?_⟩,HR⟩
   · intro k hk;have:k=a2:=by simpa using hk
     subst this;exact HA2.out
   · have h1:=HL2.out;have h2:=HL3.out;show 1≤t2;omega
   · have h1:=HL2.out;have h2:=HL3.out;omega
   · have h1:=HO2.out;have h2:=HO3.out;omega
  case round=>
   clear HR HS0 HN0 HA2;obtain ⟨ns,t3,o3,f,HF,HS0,HN,HK,HR⟩:=hrel;obtain ⟨f,rfl⟩:∃ f',f=f'+1:=⟨f-1,by have:=HF.out;have:=HS0.out.px.pat.le;omega⟩;have HTk:=hQz HS0.out.px.tk;have hR:=HR.out;rw [q1k] at hR;replace HR:=hQz hR;clear hR;obtain ⟨c,hc⟩:∃ c,syP ws t3 [59]=c:=⟨_,rfl⟩
   cases c with
   | true=>
    have hR:=HR.out;rw [q0w (y:=q07 (q0K ws) (fun _=>q07 (q1H ws nb) fun b=>pOk (.inl (ns++[b])))) (by (try dsimp only);rw [if_pos hc]),q0g,q02 (x:=q0K ws) rfl] at hR;(try dsimp only at hR)
    rw [q0g] at hR;replace HR:=hQz hR;clear hR;go_wp2_with fail;refine (takesT [59] hc _ HS0.out.px).mono ?_;rintro e w5 ⟨rfl,hb,hp⟩;have HNa:=hQz (q2q HN.out HX.out.2.2 hb);have HS5:=hQz (HS0.out.step hb hp);clear hb hp;go_wp2_with fail;refine (HP1.out _ HS5.out.px).mono ?_;rintro e w6 ⟨hb,hm⟩;have hR:=HR.out;obtain ⟨er,q,hr⟩|⟨a4,t4,o4,hr⟩:=q0o (q1H ws nb (t3+1) o3)
    · rw [hr] at hm;rw [q04 hr] at hR;obtain rfl:e= .panicked (fcs er q):=hm;exact ⟨rfl,(HS5.out.bo.trans (Bo.ofBt hb)).toBt,by rw [← hR]⟩
    rw [hr] at hm;rw [q02 hr,q02 (x:=pOk _) rfl] at hR;(try dsimp only at hR)
    obtain ⟨⟨v,rfl,hE⟩,hp⟩:=hm;(try dsimp only at hE)
    subst hE;have HL4:=hQz (mv_param (ws:=ws) (nb:=nb) _ HS5.out.px.pat.le _ _ _ _ hr);have HO4:=hQz (bl_param (ws:=ws) (nb:=nb) _ _ _ _ _ HS5.out.px.pat.open_ hr);have HA4:=hQz (param_size Htx.out hr);have HNb:=hQz (q2q HNa.out HX.out.2.2 hb);clear HR;have HR:=hQz hR;have HS6:=hQz (HS5.out.step hb hp);clear hb hp hr hR
    have HNc:Hid ((w6.alloc (.cells #[.string a4] 9)).ownsRow u.heap.size 9 1 u3 ns.length (ns.map Value.string)):=by
     refine ⟨HNb.out.1,?_⟩;rcases HNb.out.2 with h0|⟨g,cap,cur,e1,e2,e3,e4⟩
     · exact .inl h0
     · exact .inr ⟨g,cap,cur,e1,e2,(Below.heap_alloc _ _ _ (Array.getElem?_eq_some_iff.1 e3).1).trans e3,e4⟩
    have hbs:u.heap.size≤(w6.alloc (.cells #[.string a4] 9)).heap.size:=by have:=HS6.out.bo.size;simp;omega
    have HBs:=hQz hbs;clear hbs;go_wp2_with (at_builtin;go_loud (refine wpList_append_own_at _ rfl _ _ 23 rfl u.heap.size 9 i0 (.string ⟨#[]⟩) 1 16 Tryz.underlying23 hi0 hz0 hz1 hz2 rfl (by decide) u3 ns.length (ns.map Value.string) rfl HNc.out ⟨w6.heap.size,0,none⟩ 1 1 [.string a4] rfl rfl (q0Z (cs:=[.string a4]) (heap_alloc_new w6 _)) (by simp [Value.oneCell']) (by have:=HK.out;have:=HS0.out.px.pat.le;have:=HS0.out.px.pat.few;unfold maxLen;omega) (by have:=HK.out;have:=HS0.out.px.pat.le;have:=HS0.out.px.pat.few;omega) HBs.out ?_));intro v6 w6 hown hgrow hnil hat
    have HS9:Hid (SB false (fun b=>u.heap.size≤b) none u B so sc ws nb t4 o4 [] (.slice none 0 0) [] [] w6):=by
     have hsz:=HS6.out.bo.size;refine HS6.out.grow hgrow.os hgrow.tape hgrow.output (by have:=hgrow.size;simp at this;omega) (fun k hk=>(hgrow.block k (by simp;omega) (fun e=> ?_)).trans (Below.heap_alloc _ _ _ (by omega)));rcases HNb.out.2 with ⟨e0,_⟩|⟨g,cap,cur,e1,e2,e3,e4⟩
     · rw [e0] at e;cases e
     · rw [e1] at e;have:k=g:=by injection e
       omega
    have HN9:Hid (w6.ownsRow u.heap.size 9 1 v6 (ns++[a4]).length ((ns++[a4]).map Value.string)):=by
     show World.ownsRow _ _ _ _ _ _ _;simpa using hown
    clear hown hgrow hnil hat;go_wp2_with fail;go_roundw
    case rel=>
     refine ⟨ns++[a4],t4,o4,f,?_,HS9,HN9,⟨?_,?_,?_,?_⟩,HR⟩
     · have h1:=HF.out;have h2:=HL4.out;show _<_;omega
     · intro k hk;rcases List.mem_append.1 hk with hk|hk
       · exact HK.out.1 k hk
       · have:k=a4:=by simpa using hk
         subst this;exact HA4.out
     · have h1:=HK.out.2;have h2:=HL4.out;have h6:(ns++[a4]).length=ns.length+1:=by simp
       omega
     · have h1:=HK.out.2;have h2:=HL4.out;omega
     · have h1:=HK.out.2;have h2:=HO4.out;omega
    case measure=>
     rw [HTk.out,HS9.out.px.tk];have h2:=HL4.out;have h3:=HS0.out.px.pat.le;omega
   | false=>
    have hR:=HR.out;rw [q02 (a:= .inr ns) (t':=t3) (o':=o3) (by (try dsimp only);rw [if_neg (by rw [hc];decide)])] at hR;(try dsimp only at hR)
    replace HR:=hQz hR;clear hR;go_wp2_with fail;refine (takesF [59] hc _ HS0.out.px).mono ?_;rintro e w5 ⟨rfl,hb⟩;have HNa:=hQz (q2q HN.out HX.out.2.2 (Bt.of hb));have HS5:=hQz (HS0.out.keep hb);clear hb;go_wp2_with fail;refine (q1p [41] (by have:=HK.out.2;omega) _ HS5.out.px).mono ?_;rintro e w6 ⟨hb,hm⟩;have hR:=HR.out;obtain ⟨er,q,hr⟩|⟨_x,t4,o4,hr⟩:=q0o (q0Q ws nb [41] t3 o3)
    · rw [hr] at hm;rw [q04 hr] at hR;obtain rfl:e= .panicked (fcs er q):=hm;exact ⟨rfl,(HS5.out.bo.trans (Bo.ofBt hb)).toBt,by rw [← hR]⟩
    rw [hr] at hm;rw [q02 hr] at hR;(try dsimp only at hR)
    obtain ⟨⟨v,rfl,hE⟩,hp⟩:=hm;subst hE;have HNb:=hQz (q2q HNa.out HX.out.2.2 hb);clear HR;have HR:=hQz hR;have HS6:=hQz (HS5.out.step hb hp);clear hb hp hr hR;go_wp2_with fail;refine bodyPost_ret (v:=u3) (by simp [results,Tryz.results220,go_sem]) rfl ?_;have hR:=HR.out;refine ⟨HS6.out.bo.toBt,?_⟩;rw [← hR];exact ⟨⟨_,rfl,HNb.out,HK.out.1,by have:=HK.out.2;have:=HS0.out.px.pat.le;have:=HS0.out.px.pat.few;omega⟩,HS6.out.px⟩
end
theorem ns_alloc {W:World} {b:Nat} {v:Value} {n:Nat} {xs:List Value} {X:Obj} (h:W.ownsRow b 9 1 v n xs):(W.alloc X).ownsRow b 9 1 v n xs:=by
 refine ⟨h.1,?_⟩;rcases h.2 with h0|⟨g,cap,cur,e1,e2,e3,e4⟩
 · exact .inl h0
 · exact .inr ⟨g,cap,cur,e1,e2,(Below.heap_alloc _ _ _ (Array.getElem?_eq_some_iff.1 e3).1).trans e3,e4⟩
theorem ns_put {W W':World} {b B:Nat} {v:Value} {n:Nat} {xs:List Value} {x:Obj} (h:W.ownsRow b 9 1 v n xs) (hB:B<b) (hp:Put B x W W'):W'.ownsRow b 9 1 v n xs:=by
 refine ⟨h.1,?_⟩;rcases h.2 with h0|⟨g,cap,cur,e1,e2,e3,e4⟩
 · exact .inl h0
 · exact .inr ⟨g,cap,cur,e1,e2,(hp.rest g (by omega)).trans e3,e4⟩
theorem ns_row {D:Nat→Prop} {W:World} {b:Nat} {no:Option Addr} {nc:Nat} {ns:List ByteArray} (h:W.ownsRow b 9 1 (.slice no ns.length nc) ns.length (ns.map Value.string)) (hD:∀ g,b≤g→D g):ns.length≤nc∧(0<ns.length→∃ b off,no=some ⟨b,off,none⟩∧D b∧b<W.heap.size∧∀ i,i<ns.length→W.cell? ⟨b,off+i,none⟩=some (.string (ns.getD i .empty))):=by
 rcases h.2 with ⟨e,h0⟩|⟨g,cap,cur,e1,e2,e3,e4,e5,e6,e7⟩
 · exact ⟨by omega,fun h=>by omega⟩
 · injection e1 with e1 e8 e9;refine ⟨by rw [e9];exact e4,fun _=>⟨g,0,e1,hD g e2,(Array.getElem?_eq_some_iff.1 e3).1,fun i hi=> ?_⟩⟩;rw [Nat.zero_add,cell_of_row _ _ _ _ _ _ e3,← Array.getElem?_toList]
   have h1:(ns.map Value.string)[i]? =some (.string (ns.getD i .empty)):=by
    rw [List.getElem?_map,List.getD_eq_getElem?_getD,List.getElem?_eq_getElem hi];rfl
   rw [← h1,← e7,List.getElem?_take_of_lt (by omega)]
theorem pThen_asF {α β γ:Type} (x:PM α) (g: α→PM β) (f: β→PM γ):q07 (q07 x g) f=q07 x (fun a=>q07 (g a) f):=by
 funext t o
 exact q0g x g f t o
theorem pThen_pOkF {α β:Type} (a: α) (f: α→PM β):q07 (pOk a) f=f a:=rfl
section
variable {B:Nat} {so:Option Addr} {sc:Nat} {ws:List Tok} {nb:Nat} {m:Nat} {P:PM NT} {O:Nat→PM NT}
theorem definitionX (h:PO B so sc ws nb (m+1) P O):NodeF B so sc ws nb 194 #[.pointer (some ⟨B,0,none⟩)] m (q1w ws nb P):=by
 intro D u t o dn db hx hm;obtain ⟨R,hR⟩:∃ R,q1w ws nb P t o=R:=⟨_,rfl⟩;rw [hR];unfold q1w at hR;have HR:=hQz hR;have HPO:=hQz h;have HS0:=hQz (SB.new (Fl:=false) (tr:=[]) hx dn db (fun q hq=>by simp at hq));have HX:=hQz (And.intro hx.pat.le hx.pat.open_);have HM:=hQz hm;have hfl0:=Tryz.fldX0;have hfl1:=Tryz.fldX1;have hfl3:=Tryz.fldX3;clear hR h hx hm dn db;have Htx:=hQz HPO.out.tx;go_in;go_wp2_with fail;have HS1:=hQz (HS0.out.al0);refine PxR.on (enterX [100,101,102] _ HS1.out.px) (fun er q w hr hb=>⟨rfl,(HS1.out.bo.trans (Bo.ofBt hb)).toBt,by rw [← HR.out,q04 hr]⟩) ?_;intro x1 t1 o1 v w1 hr hb hp hE;replace HR:=hQz ((q02 hr).symm.trans HR.out);(try dsimp only at HR)
 have HL1:=hQz (q0I (nb:=nb) [100,101,102] _ HS1.out.px.pat.le _ _ _ _ hr);have HO1:=hQz (q0H (nb:=nb) [100,101,102] _ _ _ _ _ HS1.out.px.pat.open_ hr);have HQ1:=hQz hr;have HS2:=hQz (HS1.out.step hb hp);clear hb hp hr;unfold TkE at hE;subst hE;obtain ⟨kd1,pa1,fi1,tx1,er1⟩:=x1;unfold tokV;(try dsimp only at HR)
 dsimp only;go_wp2_with fail;refine PxR.on (beX 1 (by decide) _ HS2.out.px) (fun er q w hr hb=>⟨rfl,(HS2.out.bo.trans (Bo.ofBt hb)).toBt,by rw [← HR.out,q04 hr]⟩) ?_;intro x2 t2 o2 v w2 hr hb hp hE;replace HR:=hQz ((q02 hr).symm.trans HR.out);(try dsimp only at HR)
 have HL2:=hQz (mv_be (nb:=nb) (k:=1) (by decide) _ HS2.out.px.pat.le _ _ _ _ hr);have HO2:=hQz (bl_be (nb:=nb) 1 _ _ _ _ _ HS2.out.px.pat.open_ hr);have HQ2:=hQz hr;have HS3:=hQz (HS2.out.step hb hp);clear hb hp hr;unfold TkE at hE;subst hE;have HT2:Hid (x2.text.length≤140737488355000):=by rw [show x2=_ from be_eq HQ2.out];exact Htx.out _
 obtain ⟨kd2,pa2,fi2,tx2,er2⟩:=x2;unfold tokV;dsimp only at HT2 HR ⊢;go_wp2_with fail;refine PxR.on (paramsX Htx.out _ HS3.out.px) (fun er q w hr hb=>⟨rfl,(HS3.out.bo.trans (Bo.ofBt hb)).toBt,by rw [← HR.out,q04 hr]⟩) ?_;intro ns t3 o3 v w3 hr hb hp hE;replace HR:=hQz ((q02 hr).symm.trans HR.out);(try dsimp only at HR)
 have HL3:=hQz (mv_params (ws:=ws) (nb:=nb) _ HS3.out.px.pat.le _ _ _ _ hr);have HO3:=hQz (bl_params (ws:=ws) (nb:=nb) _ _ _ _ _ HS3.out.px.pat.open_ hr);have HQ3:=hQz hr;have HS4:=hQz (HS3.out.step hb hp);clear hb hp hr;obtain ⟨hn1,hn2,hn3⟩:=hE
 obtain ⟨no,nc,hv⟩:∃ no nc,v= .slice no ns.length nc:=by
  rcases hn1.2 with ⟨e,h0⟩|⟨g,cap,cur,e,_⟩
  · exact ⟨none,0,by rw [e,h0]⟩
  · exact ⟨_,_,e⟩
 subst hv;have HNs0:=hQz hn1;have HNz:=hQz (And.intro hn2 hn3);have HBb:Hid (B<w2.heap.size):=HS3.out.px.pat.lt
 have HRb:Hid (u.heap.size<w2.heap.size):=by
  have:=(HS3.out.bxs _ (List.mem_of_getElem? (i:=0) rfl)).2.1;exact this
 have HRb2:Hid (u.heap.size≤w2.heap.size):=HS3.out.bo.size;clear hn1 hn2 hn3;go_wp2_with fail;refine PxR.on (q2r [58] _ HS4.out.px) (fun er q w hr hb=>⟨rfl,(HS4.out.bo.trans (Bo.ofBt hb)).toBt,by rw [← HR.out,q04 hr]⟩) ?_;intro x4 t4 o4 v w4 hr hb hp hE;replace HR:=hQz ((q02 hr).symm.trans HR.out);(try dsimp only at HR)
 have HL4:=hQz (q0B (nb:=nb) [58] _ HS4.out.px.pat.le _ _ _ _ hr);have HO4:=hQz (q0x (nb:=nb) [58] _ _ _ _ _ HS4.out.px.pat.open_ hr);have HQ4:=hQz hr;have HS5:=hQz (HS4.out.step hb hp);have HNs1:=hQz (q2q HNs0.out HBb.out hb);clear hb hp hr;unfold TkE at hE;subst hE;obtain ⟨kd4,pa4,fi4,tx4,er4⟩:=x4;unfold tokV;(try dsimp only at HR)
 dsimp only;go_wp2_with fail;refine PxR.on (HPO.out.pipe _ _ _ _ HS5.out.dnW HS5.out.dbW HS5.out.px (by have:=HL1.out;have:=HL2.out;have:=HL3.out;have:=HL4.out;have:=HM.out;omega)) (fun er q w hr hb=>⟨rfl,(HS5.out.bo.trans (Bo.ofBt hb)).toBt,by rw [← HR.out,q04 hr]⟩) ?_;intro T5 t5 o5 v w5 hr hb hp hE;replace HR:=hQz ((q02 hr).symm.trans HR.out);(try dsimp only at HR)
 have HL5:=hQz (HPO.out.mp _ HS5.out.px.pat.le _ _ _ _ hr);have HO5:=hQz (HPO.out.bp _ _ _ _ _ HS5.out.px.pat.open_ hr);have HQ5:=hQz hr;have HS6:=hQz (HS5.out.step hb hp);have HNs2:=hQz (q2q HNs1.out HBb.out hb);clear hb hp hr;obtain ⟨d,rfl,hd⟩:=hE;have HS7:=hQz (HS6.out.add hd);clear hd;obtain ⟨op5,at5,vk5,tx5,nu5,vt5,io5,yo5,no5,ko5,iN5,ic5,yN5,yc5,nN5,nc5,kN5,kc5⟩:=d;unfold NV.v NV.l;dsimp only;obtain ⟨W6,hW6⟩:∃ W,w5.alloc (.cells #[.int .i64 op5,.int .i64 at5,.string tx5,.int .i64 vk5,.string nu5,.string vt5,.slice io5 iN5 ic5,.slice yo5 yN5 yc5,.slice no5 nN5 nc5,.slice ko5 kN5 kc5] 28)=W:=⟨_,rfl⟩;have HS8:=hQz (HS7.out.alloc [.int .i64 op5,.int .i64 at5,.string tx5,.int .i64 vk5,.string nu5,.string vt5,.slice io5 iN5 ic5,.slice yo5 yN5 yc5,.slice no5 nN5 nc5,.slice ko5 kN5 kc5] 28);rw [hW6] at HS8;have HNs3:=hQz (ns_alloc (X:= .cells #[.int .i64 op5,.int .i64 at5,.string tx5,.int .i64 vk5,.string nu5,.string vt5,.slice io5 iN5 ic5,.slice yo5 yN5 yc5,.slice no5 nN5 nc5,.slice ko5 kN5 kc5] 28) HNs2.out);rw [hW6] at HNs3;go_wp2_with fail;refine PxR.on (q1p [59] (by have:=HO1.out;have:=HO2.out;have:=HO3.out;have:=HO4.out;have:=HO5.out;omega) _ HS8.out.px) (fun er q w hr hb=>⟨rfl,(HS8.out.bo.trans (Bo.ofBt hb)).toBt,by rw [← HR.out,q04 hr]⟩) ?_;intro _x t6 o6 v w7 hr hb hp hE;replace HR:=hQz ((q02 hr).symm.trans HR.out);(try dsimp only at HR)
 have HL7:=hQz (q0u (nb:=nb) [59] _ HS8.out.px.pat.le _ _ _ _ hr);have HQ7:=hQz hr;have HS9:=hQz (HS8.out.step hb hp);have HNs4:=hQz (q2q HNs3.out HBb.out hb);clear hb hp hr;subst hE;have HLv:=HL7;obtain ⟨c0,c1,c2,c3,c4,c5,c6,c7,c8,c9⟩:=q00 HS9.out.bb0;obtain ⟨W8,hW8⟩:∃ W,w7.alloc (.cells #[.int .i64 op5,.int .i64 at5,.string tx5,.int .i64 vk5,.string nu5,.string vt5,.slice io5 iN5 ic5,.slice yo5 yN5 yc5,.slice no5 nN5 nc5,.slice ko5 kN5 kc5] 28)=W:=⟨_,rfl⟩;have HS10:=hQz (HS9.out.alloc [.int .i64 op5,.int .i64 at5,.string tx5,.int .i64 vk5,.string nu5,.string vt5,.slice io5 iN5 ic5,.slice yo5 yN5 yc5,.slice no5 nN5 nc5,.slice ko5 kN5 kc5] 28);rw [hW8] at HS10;have HNs5:=hQz (ns_alloc (X:= .cells #[.int .i64 op5,.int .i64 at5,.string tx5,.int .i64 vk5,.string nu5,.string vt5,.slice io5 iN5 ic5,.slice yo5 yN5 yc5,.slice no5 nN5 nc5,.slice ko5 kN5 kc5] 28) HNs4.out);rw [hW8] at HNs5;obtain ⟨c0,c1,c2,c3,c4,c5,c6,c7,c8,c9⟩:=q00 HS10.out.bb1;obtain ⟨r0,r1,r2,r3,r4,r5,r6,r7,r8,r9⟩:=q00 HS10.out.bb2;obtain ⟨rf0,rf1,rf2,rf3,rf4,rf5,rf6,rf7,rf8,rf9⟩:=q03 HS10.out.bb2;go_wp2_with fail;generalize hzZ:((((((((((W8).setCell ⟨u.heap.size,0,none⟩ (.int .i64 32)).setCell ⟨u.heap.size,1,none⟩ (.int .i64 (pa1:Int))).setCell ⟨u.heap.size,2,none⟩ (.string ⟨tx2.toArray⟩)).setCell ⟨u.heap.size,3,none⟩ (.int .i64 0)).setCell ⟨u.heap.size,4,none⟩ (.string ⟨#[]⟩)).setCell ⟨u.heap.size,5,none⟩ (.string ⟨#[]⟩)).setCell ⟨u.heap.size,6,none⟩ (.slice none 0 0)).setCell ⟨u.heap.size,7,none⟩ (.slice none 0 0)).setCell ⟨u.heap.size,8,none⟩ (.slice no ns.length nc)).setCell ⟨u.heap.size,9,none⟩ (.slice (some ⟨w7.heap.size,0,none⟩) 1 1)=WZ;have PZ:=q0J HS10.out.bb2 hzZ;obtain ⟨m0,m1,m2,m3,m4,m5,m6,m7,m8,m9⟩:=q00 PZ.new;have HZ:=HS10.out.put 2 _ _ [.int .i64 32,.int .i64 (pa1:Int),.string ⟨tx2.toArray⟩,.int .i64 0,.string ⟨#[]⟩,.string ⟨#[]⟩,.slice none 0 0,.slice none 0 0,.slice no ns.length nc,.slice (some ⟨w7.heap.size,0,none⟩) 1 1] _ rfl PZ;refine bodyPost_ret (v:= .agg #[.int .i64 32,.int .i64 (pa1:Int),.string ⟨tx2.toArray⟩,.int .i64 0,.string ⟨#[]⟩,.string ⟨#[]⟩,.slice none 0 0,.slice none 0 0,.slice no ns.length nc,.slice (some ⟨w7.heap.size,0,none⟩) 1 1]) (by simp [results,Tryz.results194,go_sem,m0,m1,m2,m3,m4,m5,m6,m7,m8,m9]) rfl ?_;have hR:=HR.out
 refine ⟨HZ.bo.toBt,?_⟩;rw [← hR];have hns:=ns_row (D:=D) (ns_put HNs5.out HRb.out PZ) (fun g hg=>HZ.dn g (Nat.le_trans HRb2.out hg))
 exact ⟨⟨_,rfl,⟨32,(pa1:Int),0,⟨tx2.toArray⟩,⟨#[]⟩,⟨#[]⟩,none,none,no,some ⟨w7.heap.size,0,none⟩,0,0,0,0,ns.length,nc,1,1⟩,rfl,NdI.make (D0:=D) (Ts:=[T5]) (ds:=[⟨op5,at5,vk5,tx5,nu5,vt5,io5,yo5,no5,ko5,iN5,ic5,yN5,yc5,nN5,nc5,kN5,kc5⟩]) 32 (pa1:Int) ⟨tx2.toArray⟩ vtN no nc ns (by have:=HT2.out;show tx2.toArray.size≤_;simp;omega) (inv_leaf D _ 0 .empty .empty q0N q0N) rfl rfl ⟨hns.1,by have:=HNz.out.2;omega,HNz.out.1⟩ hns.2 (NRw.lit rfl (by simp) HZ.bb0 (els1 HZ.t0)) (fun b hb _=>hb) (fun k hk=>by
  have:w7.heap.size=k:=by injection hk
  subst this;exact ⟨HZ.dn _ (HZ.bxs _ (List.mem_of_getElem? (i:=0) rfl)).1,(HZ.bxs _ (List.mem_of_getElem? (i:=0) rfl)).2.1⟩) (by simp),rfl,(by show 1≤1000;decide)⟩,HZ.px⟩
end
theorem link_eq (ws:List Tok) (nb:Nat) (P:PM NT) (O:Nat→PM NT) (t o:Nat):linkP ws nb P O t o=if syP ws t [100,101,102] then q07 (q1w ws nb P) (fun n=>pOk (n,true)) t o
 else if syP ws t [108,97,98,101,108] then q07 (labelP ws nb) (fun n=>pOk (n,true)) t o
 else q07 (q2m ws nb P O) (fun n t1 o1=>if syP ws t [45]=false∧syP ws t1 [97,115]=true then q07 (q2b ws nb n) (fun n=>pOk (n,true)) t1 o1
  else q07 (q1R ws O 1 n) (fun m t2 o2=>if syP ws t2 [124] then .ok (ndP 12 (hrP ws t2).at_ [m],true) (t2+1) o2 else .ok (m,false) t2 o2) t1 o1) t o:=by
 unfold linkP q1w labelP q2b;simp only [pThen_asF,pThen_pOkF]
section
variable {B:Nat} {so:Option Addr} {sc:Nat} {ws:List Tok} {nb:Nat} {m:Nat} {P:PM NT} {O:Nat→PM NT}
theorem behind1X (h:PO B so sc ws nb (m+1) P O):∀ (D:Nat→Prop) (u:World) (t o:Nat) (T0:NT) (op at_ vk:Int) (tx nu vt:ByteArray) (io yo no ko:Option Addr) (iN ic yN yc nN nc kN kc:Nat),(∀ b,u.heap.size≤b→D b)→(∀ b,D b→b≠B)→PX u B so sc ws nb t o→m≤t→NdI D u T0 ⟨op,at_,vk,tx,nu,vt,io,yo,no,ko,iN,ic,yN,yc,nN,nc,kN,kc⟩→Calls Tryz.prog 198 #[.pointer (some ⟨B,0,none⟩),.agg #[.int .i64 op,.int .i64 at_,.string tx,.int .i64 vk,.string nu,.string vt,.slice io iN ic,.slice yo yN yc,.slice no nN nc,.slice ko kN kc],.int .i64 1] u fun e w'=>PxR B so sc ws nb u (NdE D) (q1R ws O 1 T0 t o) e w':=by
 intro D u t o T0 op at_ vk tx nu vt io yo no ko iN ic yN yc nN nc kN kc d1 d2 hx hm hd;have h1:=behindX h 1 (by decide) D u t o T0 ⟨op,at_,vk,tx,nu,vt,io,yo,no,ko,iN,ic,yN,yc,nN,nc,kN,kc⟩ d1 d2 hx hm hd;rw [show ((1:Nat):Int)=1 from rfl] at h1;unfold NV.v NV.l at h1;dsimp only at h1;exact h1
theorem bindingL (h:PO B so sc ws nb (m+1) P O):∀ (D:Nat→Prop) (u:World) (t o:Nat) (T0:NT) (op at_ vk:Int) (tx nu vt:ByteArray) (io yo no ko:Option Addr) (iN ic yN yc nN nc kN kc:Nat),(∀ b,u.heap.size≤b→D b)→(∀ b,D b→b≠B)→PX u B so sc ws nb t o→m≤t→NdI D u T0 ⟨op,at_,vk,tx,nu,vt,io,yo,no,ko,iN,ic,yN,yc,nN,nc,kN,kc⟩→t<ws.length→Calls Tryz.prog 197 #[.pointer (some ⟨B,0,none⟩),.agg #[.int .i64 op,.int .i64 at_,.string tx,.int .i64 vk,.string nu,.string vt,.slice io iN ic,.slice yo yN yc,.slice no nN nc,.slice ko kN kc]] u fun e w'=>PxR B so sc ws nb u (NdF D) (q2b ws nb T0 t o) e w':=by
 intro D u t o T0 op at_ vk tx nu vt io yo no ko iN ic yN yc nN nc kN kc d1 d2 hx hm hd hl;have h1:=bindingX h D u t o T0 ⟨op,at_,vk,tx,nu,vt,io,yo,no,ko,iN,ic,yN,yc,nN,nc,kN,kc⟩ d1 d2 hx hm hd hl;unfold NV.v NV.l at h1;dsimp only at h1;exact h1
theorem linkX (h:PO B so sc ws nb (m+1) P O) (hu:q1X B so sc ws nb 196 m (q2m ws nb P O)):LinkC B so sc ws nb m (linkP ws nb P O):=by
 intro D u t o dn db hx hm;obtain ⟨R,hR⟩:∃ R,linkP ws nb P O t o=R:=⟨_,rfl⟩;rw [hR];rw [link_eq] at hR;have HR:=hQz hR;have HPO:=hQz h;have HS0:=hQz (SB.new (Fl:=false) (tr:=[]) hx dn db (fun q hq=>by simp at hq));have HX:=hQz (And.intro hx.pat.le hx.pat.open_);have HM:=hQz hm;have hfl0:=Tryz.fldX0;have hfl1:=Tryz.fldX1;have hfl3:=Tryz.fldX3;clear hR h hx hm dn db;have HUn:=hQz hu;have HBeh:=hQz (behind1X HPO.out);have HBnd:=hQz (bindingL HPO.out);clear hu;obtain ⟨c1,h1⟩:∃ c,syP ws t [100,101,102]=c:=⟨_,rfl⟩
 cases c1 with
 | true=>
  have hR:=HR.out;rw [if_pos h1] at hR;replace HR:=hQz hR;clear hR;go_in;go_wp2_with fail;have HS1:=hQz (HS0.out.al0);refine (q0p [100,101,102] h1 _ HS1.out.px).mono ?_;rintro e w1 ⟨rfl,hb⟩;have HS2:=hQz (HS1.out.keep hb);clear hb;go_wp2_with fail;refine PxR.on (definitionX HPO.out _ _ _ _ HS2.out.dnW HS2.out.dbW HS2.out.px HM.out) (fun er q w hr hb=>⟨rfl,(HS2.out.bo.trans (Bo.ofBt hb)).toBt,by rw [← HR.out,q04 hr]⟩) ?_;intro T2 t2 o2 v w2 hr hb hp hE;replace HR:=hQz ((q02 hr).symm.trans HR.out);(try dsimp only at HR)
  have HQ2:=hQz hr;have HS3:=hQz (HS2.out.step hb hp);clear hb hp hr;obtain ⟨d,rfl,hd,hf1,hf2⟩:=hE;have HF2:=hQz (And.intro hf1 hf2);have HS4:=hQz (HS3.out.add hd);clear hd hf1 hf2;obtain ⟨op2,at2,vk2,tx2,nu2,vt2,io2,yo2,no2,ko2,iN2,ic2,yN2,yc2,nN2,nc2,kN2,kc2⟩:=d;unfold NV.v NV.l;dsimp only at HF2 ⊢;obtain ⟨r0,r1,r2,r3,r4,r5,r6,r7,r8,r9⟩:=q00 HS4.out.bb0;obtain ⟨rf0,rf1,rf2,rf3,rf4,rf5,rf6,rf7,rf8,rf9⟩:=q03 HS4.out.bb0;go_wp2_with fail;generalize hzZ:((((((((((w2).setCell ⟨u.heap.size,0,none⟩ (.int .i64 op2)).setCell ⟨u.heap.size,1,none⟩ (.int .i64 at2)).setCell ⟨u.heap.size,2,none⟩ (.string tx2)).setCell ⟨u.heap.size,3,none⟩ (.int .i64 vk2)).setCell ⟨u.heap.size,4,none⟩ (.string nu2)).setCell ⟨u.heap.size,5,none⟩ (.string vt2)).setCell ⟨u.heap.size,6,none⟩ (.slice io2 iN2 ic2)).setCell ⟨u.heap.size,7,none⟩ (.slice yo2 yN2 yc2)).setCell ⟨u.heap.size,8,none⟩ (.slice no2 nN2 nc2)).setCell ⟨u.heap.size,9,none⟩ (.slice ko2 kN2 kc2)=WZ;have PZ:=q0J HS4.out.bb0 hzZ;obtain ⟨m0,m1,m2,m3,m4,m5,m6,m7,m8,m9⟩:=q00 PZ.new;have HZ:=HS4.out.put 0 _ _ [.int .i64 op2,.int .i64 at2,.string tx2,.int .i64 vk2,.string nu2,.string vt2,.slice io2 iN2 ic2,.slice yo2 yN2 yc2,.slice no2 nN2 nc2,.slice ko2 kN2 kc2] _ rfl PZ;refine bodyPost_ret (v:= .tuple #[.agg #[.int .i64 op2,.int .i64 at2,.string tx2,.int .i64 vk2,.string nu2,.string vt2,.slice io2 iN2 ic2,.slice yo2 yN2 yc2,.slice no2 nN2 nc2,.slice ko2 kN2 kc2],.bool true]) (by simp [results,Tryz.results156,go_sem,m0,m1,m2,m3,m4,m5,m6,m7,m8,m9]) rfl ?_;have hR:=HR.out;refine ⟨HZ.bo.toBt,?_⟩;rw [← hR];exact ⟨⟨_,rfl,⟨op2,at2,vk2,tx2,nu2,vt2,io2,yo2,no2,ko2,iN2,ic2,yN2,yc2,nN2,nc2,kN2,kc2⟩,rfl,HZ.t0,fun _=>HF2.out⟩,HZ.px⟩
 | false=>
  obtain ⟨c2,h2⟩:∃ c,syP ws t [108,97,98,101,108]=c:=⟨_,rfl⟩
  cases c2 with
  | true=>
   have hR:=HR.out;rw [if_neg (by rw [h1];decide),if_pos h2] at hR;replace HR:=hQz hR;clear hR;go_in;go_wp2_with fail;have HS1:=hQz (HS0.out.al0);refine (q0p [100,101,102] h1 _ HS1.out.px).mono ?_;rintro e w1 ⟨rfl,hb⟩;have HS2:=hQz (HS1.out.keep hb);clear hb;go_wp2_with fail;refine (q0p [108,97,98,101,108] h2 _ HS2.out.px).mono ?_;rintro e w2 ⟨rfl,hb⟩;have HS3:=hQz (HS2.out.keep hb);clear hb;go_wp2_with fail;refine PxR.on (labelX HPO.out _ _ _ _ HS3.out.dnW HS3.out.dbW HS3.out.px HM.out (q0V h2)) (fun er q w hr hb=>⟨rfl,(HS3.out.bo.trans (Bo.ofBt hb)).toBt,by rw [← HR.out,q04 hr]⟩) ?_;intro T2 t2 o2 v w3 hr hb hp hE;replace HR:=hQz ((q02 hr).symm.trans HR.out);(try dsimp only at HR)
   have HQ3:=hQz hr;have HS4:=hQz (HS3.out.step hb hp);clear hb hp hr;obtain ⟨d,rfl,hd,hf1,hf2⟩:=hE;have HF2:=hQz (And.intro hf1 hf2);have HS5:=hQz (HS4.out.add hd);clear hd hf1 hf2;obtain ⟨op2,at2,vk2,tx2,nu2,vt2,io2,yo2,no2,ko2,iN2,ic2,yN2,yc2,nN2,nc2,kN2,kc2⟩:=d;unfold NV.v NV.l;dsimp only at HF2 ⊢;obtain ⟨r0,r1,r2,r3,r4,r5,r6,r7,r8,r9⟩:=q00 HS5.out.bb0;obtain ⟨rf0,rf1,rf2,rf3,rf4,rf5,rf6,rf7,rf8,rf9⟩:=q03 HS5.out.bb0;go_wp2_with fail;generalize hzZ:((((((((((w3).setCell ⟨u.heap.size,0,none⟩ (.int .i64 op2)).setCell ⟨u.heap.size,1,none⟩ (.int .i64 at2)).setCell ⟨u.heap.size,2,none⟩ (.string tx2)).setCell ⟨u.heap.size,3,none⟩ (.int .i64 vk2)).setCell ⟨u.heap.size,4,none⟩ (.string nu2)).setCell ⟨u.heap.size,5,none⟩ (.string vt2)).setCell ⟨u.heap.size,6,none⟩ (.slice io2 iN2 ic2)).setCell ⟨u.heap.size,7,none⟩ (.slice yo2 yN2 yc2)).setCell ⟨u.heap.size,8,none⟩ (.slice no2 nN2 nc2)).setCell ⟨u.heap.size,9,none⟩ (.slice ko2 kN2 kc2)=WZ;have PZ:=q0J HS5.out.bb0 hzZ;obtain ⟨m0,m1,m2,m3,m4,m5,m6,m7,m8,m9⟩:=q00 PZ.new;have HZ:=HS5.out.put 0 _ _ [.int .i64 op2,.int .i64 at2,.string tx2,.int .i64 vk2,.string nu2,.string vt2,.slice io2 iN2 ic2,.slice yo2 yN2 yc2,.slice no2 nN2 nc2,.slice ko2 kN2 kc2] _ rfl PZ;refine bodyPost_ret (v:= .tuple #[.agg #[.int .i64 op2,.int .i64 at2,.string tx2,.int .i64 vk2,.string nu2,.string vt2,.slice io2 iN2 ic2,.slice yo2 yN2 yc2,.slice no2 nN2 nc2,.slice ko2 kN2 kc2],.bool true]) (by simp [results,Tryz.results156,go_sem,m0,m1,m2,m3,m4,m5,m6,m7,m8,m9]) rfl ?_;have hR:=HR.out;refine ⟨HZ.bo.toBt,?_⟩;rw [← hR];exact ⟨⟨_,rfl,⟨op2,at2,vk2,tx2,nu2,vt2,io2,yo2,no2,ko2,iN2,ic2,yN2,yc2,nN2,nc2,kN2,kc2⟩,rfl,HZ.t0,fun _=>HF2.out⟩,HZ.px⟩
  | false=>
   have hR:=HR.out;rw [if_neg (by rw [h1];decide),if_neg (by rw [h2];decide)] at hR;replace HR:=hQz hR;clear hR;go_in;go_wp2_with fail;have HS1:=hQz (HS0.out.al0);refine (q0p [100,101,102] h1 _ HS1.out.px).mono ?_;rintro e w1 ⟨rfl,hb⟩;have HS2:=hQz (HS1.out.keep hb);clear hb;go_wp2_with fail;refine (q0p [108,97,98,101,108] h2 _ HS2.out.px).mono ?_;rintro e w2 ⟨rfl,hb⟩;have HS3:=hQz (HS2.out.keep hb);clear hb;go_wp2_with fail;obtain ⟨c3,h3⟩:∃ c,syP ws t [45]=c:=⟨_,rfl⟩;refine (q0p [45] h3 _ HS3.out.px).mono ?_;rintro e w3 ⟨rfl,hb⟩;have HS4:=hQz (HS3.out.keep hb);clear hb;go_wp2_with fail;refine PxR.on (HUn.out _ _ _ _ HS4.out.dnW HS4.out.dbW HS4.out.px HM.out) (fun er q w hr hb=>⟨rfl,(HS4.out.bo.trans (Bo.ofBt hb)).toBt,by rw [← HR.out,q04 hr]⟩) ?_;intro T2 t2 o2 v w4 hr hb hp hE;replace HR:=hQz ((q02 hr).symm.trans HR.out);(try dsimp only at HR)
   have HL4:=hQz (mv_unary (nb:=nb) HPO.out.mp HPO.out.mo _ HS4.out.px.pat.le _ _ _ _ hr);have HO4:=hQz (bl_unary (nb:=nb) HPO.out.bp HPO.out.bo _ _ _ _ _ HS4.out.px.pat.open_ hr);have HQ4:=hQz hr;have HS5:=hQz (HS4.out.step hb hp);clear hb hp hr;obtain ⟨d,rfl,hd⟩:=hE;have HS6:=hQz (HS5.out.add hd);clear hd;obtain ⟨op2,at2,vk2,tx2,nu2,vt2,io2,yo2,no2,ko2,iN2,ic2,yN2,yc2,nN2,nc2,kN2,kc2⟩:=d;unfold NV.v NV.l;dsimp only;obtain ⟨W5,hW5⟩:∃ W,w4.alloc (.cells #[.int .i64 op2,.int .i64 at2,.string tx2,.int .i64 vk2,.string nu2,.string vt2,.slice io2 iN2 ic2,.slice yo2 yN2 yc2,.slice no2 nN2 nc2,.slice ko2 kN2 kc2] 28)=W:=⟨_,rfl⟩;have HS7:=hQz (HS6.out.alloc [.int .i64 op2,.int .i64 at2,.string tx2,.int .i64 vk2,.string nu2,.string vt2,.slice io2 iN2 ic2,.slice yo2 yN2 yc2,.slice no2 nN2 nc2,.slice ko2 kN2 kc2] 28);rw [hW5] at HS7
   cases c3 with
   | true=>
    obtain ⟨c0,c1,c2,c3,c4,c5,c6,c7,c8,c9⟩:=q00 HS7.out.bb0;go_wp2_with fail;clear hW5 c0 c1 c2 c3 c4 c5 c6 c7 c8 c9;have hR:=HR.out;rw [if_neg (by rw [h3];simp)] at hR;replace HR:=hQz hR;clear hR;refine PxR.on (HBeh.out _ _ _ _ T2 op2 at2 vk2 tx2 nu2 vt2 io2 yo2 no2 ko2 iN2 ic2 yN2 yc2 nN2 nc2 kN2 kc2 HS7.out.dnW HS7.out.dbW HS7.out.px (by have:=HL4.out;have:=HM.out;omega) HS7.out.m0) (fun er q w hr hb=>⟨rfl,(HS7.out.bo.trans (Bo.ofBt hb)).toBt,by rw [← HR.out,q04 hr]⟩) ?_;intro T4 t4 o4 v w6 hr hb hp hE;replace HR:=hQz ((q02 hr).symm.trans HR.out);(try dsimp only at HR)
    have HQ6:=hQz hr;have HS8:=hQz (HS7.out.step hb hp);clear hb hp hr;obtain ⟨d,rfl,hd⟩:=hE;have HS9:=hQz (HS8.out.add hd);clear hd;obtain ⟨op4,at4,vk4,tx4,nu4,vt4,io4,yo4,no4,ko4,iN4,ic4,yN4,yc4,nN4,nc4,kN4,kc4⟩:=d;unfold NV.v NV.l;dsimp only;obtain ⟨W7,hW7⟩:∃ W,w6.alloc (.cells #[.int .i64 op4,.int .i64 at4,.string tx4,.int .i64 vk4,.string nu4,.string vt4,.slice io4 iN4 ic4,.slice yo4 yN4 yc4,.slice no4 nN4 nc4,.slice ko4 kN4 kc4] 28)=W:=⟨_,rfl⟩;have HS10:=hQz (HS9.out.alloc [.int .i64 op4,.int .i64 at4,.string tx4,.int .i64 vk4,.string nu4,.string vt4,.slice io4 iN4 ic4,.slice yo4 yN4 yc4,.slice no4 nN4 nc4,.slice ko4 kN4 kc4] 28);rw [hW7] at HS10;go_wp2_with fail;clear hW7;obtain ⟨c5,h5⟩:∃ c,syP ws t4 [124]=c:=⟨_,rfl⟩
    cases c5 with
    | false=>
     refine (q0p [124] h5 _ HS10.out.px).mono ?_;rintro e w8 ⟨rfl,hb⟩;have HS11:=hQz (HS10.out.keep hb);clear hb;have hR:=HR.out;rw [if_neg (by rw [h5];decide)] at hR;replace HR:=hQz hR;clear hR;obtain ⟨c0,c1,c2,c3,c4,c5,c6,c7,c8,c9⟩:=q00 HS11.out.bb0;obtain ⟨r0,r1,r2,r3,r4,r5,r6,r7,r8,r9⟩:=q00 HS11.out.bb2;obtain ⟨rf0,rf1,rf2,rf3,rf4,rf5,rf6,rf7,rf8,rf9⟩:=q03 HS11.out.bb2;go_wp2_with fail;generalize hzZ:((((((((((w8).setCell ⟨u.heap.size,0,none⟩ (.int .i64 op4)).setCell ⟨u.heap.size,1,none⟩ (.int .i64 at4)).setCell ⟨u.heap.size,2,none⟩ (.string tx4)).setCell ⟨u.heap.size,3,none⟩ (.int .i64 vk4)).setCell ⟨u.heap.size,4,none⟩ (.string nu4)).setCell ⟨u.heap.size,5,none⟩ (.string vt4)).setCell ⟨u.heap.size,6,none⟩ (.slice io4 iN4 ic4)).setCell ⟨u.heap.size,7,none⟩ (.slice yo4 yN4 yc4)).setCell ⟨u.heap.size,8,none⟩ (.slice no4 nN4 nc4)).setCell ⟨u.heap.size,9,none⟩ (.slice ko4 kN4 kc4)=WZ;have PZ:=q0J HS11.out.bb2 hzZ;obtain ⟨m0,m1,m2,m3,m4,m5,m6,m7,m8,m9⟩:=q00 PZ.new;have HZ:=HS11.out.put 2 _ _ [.int .i64 op4,.int .i64 at4,.string tx4,.int .i64 vk4,.string nu4,.string vt4,.slice io4 iN4 ic4,.slice yo4 yN4 yc4,.slice no4 nN4 nc4,.slice ko4 kN4 kc4] _ rfl PZ;refine bodyPost_ret (v:= .tuple #[.agg #[.int .i64 op4,.int .i64 at4,.string tx4,.int .i64 vk4,.string nu4,.string vt4,.slice io4 iN4 ic4,.slice yo4 yN4 yc4,.slice no4 nN4 nc4,.slice ko4 kN4 kc4],.bool false]) (by simp [results,Tryz.results156,go_sem,m0,m1,m2,m3,m4,m5,m6,m7,m8,m9]) rfl ?_;have hR:=HR.out;refine ⟨HZ.bo.toBt,?_⟩;rw [← hR];exact ⟨⟨_,rfl,⟨op4,at4,vk4,tx4,nu4,vt4,io4,yo4,no4,ko4,iN4,ic4,yN4,yc4,nN4,nc4,kN4,kc4⟩,rfl,HZ.t0,fun h=>by cases h⟩,HZ.px⟩
    | true=>
     refine (q0p [124] h5 _ HS10.out.px).mono ?_;rintro e w8 ⟨rfl,hb⟩;have HS11:=hQz (HS10.out.keep hb);clear hb;have hR:=HR.out;rw [if_pos h5] at hR;replace HR:=hQz hR;clear hR;have HTake:Hid (∀ W,PX W B so sc ws nb t4 o4→Calls Tryz.prog 199 #[.pointer (some ⟨B,0,none⟩)] W fun e w'=>e= .returned (tokV (hrP ws t4))∧Bt B W w'∧PX w' B so sc ws nb (t4+1) o4):=fun W hW=>q1l (q0V h5) W hW;generalize hrP ws t4=X at *;obtain ⟨kd,pa,fi,tx,er⟩:=X;unfold tokV at HTake;dsimp only at HR HTake;go_wp2_with fail;have HS12:=hQz (HS11.out.drew);obtain ⟨p0,p1,p2,p3,p4,p5,p6,p7,p8,p9⟩:=q00 HS12.out.bb0;refine q0r 8 (S:=(fun u1=>u1.cell? ⟨w6.heap.size,0,none⟩=some (.int .i64 op4)∧u1.cell? ⟨w6.heap.size,1,none⟩=some (.int .i64 at4)∧u1.cell? ⟨w6.heap.size,2,none⟩=some (.string tx4)∧u1.cell? ⟨w6.heap.size,3,none⟩=some (.int .i64 vk4)∧u1.cell? ⟨w6.heap.size,4,none⟩=some (.string nu4)∧u1.cell? ⟨w6.heap.size,5,none⟩=some (.string vt4)∧u1.cell? ⟨w6.heap.size,6,none⟩=some (.slice io4 iN4 ic4)∧u1.cell? ⟨w6.heap.size,7,none⟩=some (.slice yo4 yN4 yc4)∧u1.cell? ⟨w6.heap.size,8,none⟩=some (.slice no4 nN4 nc4)∧u1.cell? ⟨w6.heap.size,9,none⟩=some (.slice ko4 kN4 kc4))) (by kernel_rfl) (by exact ⟨p0,p1,p2,p3,p4,p5,p6,p7,p8,p9⟩) (fun hHeld=> ?_);clear p0 p1 p2 p3 p4 p5 p6 p7 p8 p9;refine qKT 0 (.pointer (some ⟨B,0,none⟩)) rfl (by kernel_rfl) (fun _ _ _ h=>h) (.inl ⟨by rfl,?_⟩) (by assumption) ?_
     · intro w hSw;go_simp
       try (intro hq;exfalso;omega)
     try simp only [Act.put,qsA,qsB,qsC]
     refine qKT 1 (.pointer (some ⟨B,0,none⟩)) rfl (by kernel_rfl) (fun _ _ _ h=>h) (.inl ⟨by rfl,?_⟩) (by assumption) ?_
     · intro w hSw;go_simp
       try (intro hq;exfalso;omega)
     try simp only [Act.put,qsA,qsB,qsC]
     refine qKT 2 (.pointer (some ⟨B,0,none⟩)) rfl (by kernel_rfl) (fun _ _ _ h=>h) (.inl ⟨by rfl,?_⟩) (by assumption) ?_
     · intro w hSw;go_simp
       try (intro hq;exfalso;omega)
     try simp only [Act.put,qsA,qsB,qsC]
     refine qKT 5 (.agg #[.int .i64 op4,.int .i64 at4,.string tx4,.int .i64 vk4,.string nu4,.string vt4,.slice io4 iN4 ic4,.slice yo4 yN4 yc4,.slice no4 nN4 nc4,.slice ko4 kN4 kc4]) rfl (by kernel_rfl) (fun _ _ _ h=>h) (.inl ⟨by rfl,?_⟩) (by assumption) ?_
     · intro w hSw;obtain ⟨hp0,hp1,hp2,hp3,hp4,hp5,hp6,hp7,hp8,hp9⟩:=hSw;go_simp
       try (intro hq;exfalso;omega)
     try simp only [Act.put,qsA,qsB,qsC]
     refine q2c (i:=3) (j:=6) (oi:=_) (oj:=_) (by kernel_rfl) rfl rfl (fun K2 hK2=> ?_) (fun K2 hK2=> ?_)
     · go_simp;go_at_call 199;refine (HTake.out _ HS12.out.px).mono ?_;rintro e w9 ⟨rfl,hb,hp⟩;have HS13:=hQz (HS12.out.step hb hp);clear hb hp;obtain ⟨p0,p1,p2,p3,p4,p5,p6,p7,p8,p9⟩:=q00 HS13.out.bb0;go_wp2_with fail;refine hK2.out _ _ (fun _=>⟨p0,p1,p2,p3,p4,p5,p6,p7,p8,p9⟩) (fun hHeld=> ?_);replace hHeld:=hHeld (by decide);clear hK2 K2
       try simp only [Act.put,qsA,qsB,qsC]
       clear p0 p1 p2 p3 p4 p5 p6 p7 p8 p9;refine qKT 4 (.int .i64 (pa:Int)) rfl (by kernel_rfl) (fun _ _ _ h=>h) (.inl ⟨by rfl,?_⟩) (by assumption) ?_
       · intro w hSw;go_simp
         try (intro hq;exfalso;omega)
       try simp only [Act.put,qsA,qsB,qsC]
       obtain ⟨W10,hW10⟩:∃ W,w9.alloc (.cells #[.int .i64 op4,.int .i64 at4,.string tx4,.int .i64 vk4,.string nu4,.string vt4,.slice io4 iN4 ic4,.slice yo4 yN4 yc4,.slice no4 nN4 nc4,.slice ko4 kN4 kc4] 28)=W:=⟨_,rfl⟩;have HS14:=hQz (HS13.out.alloc [.int .i64 op4,.int .i64 at4,.string tx4,.int .i64 vk4,.string nu4,.string vt4,.slice io4 iN4 ic4,.slice yo4 yN4 yc4,.slice no4 nN4 nc4,.slice ko4 kN4 kc4] 28);rw [hW10] at HS14;obtain ⟨p0,p1,p2,p3,p4,p5,p6,p7,p8,p9⟩:=q00 HS14.out.bb1;refine q09 (i:=6) (o:=_) (by kernel_rfl) rfl (fun K2 hK2=> ?_);go_simp;go_wp2_with fail;refine hK2.out _ _ (fun _=>⟨p0,p1,p2,p3,p4,p5,p6,p7,p8,p9⟩) (fun hHeld=> ?_);replace hHeld:=hHeld (by decide);clear hK2 K2
       try simp only [Act.put,qsA,qsB,qsC]
       clear p0 p1 p2 p3 p4 p5 p6 p7 p8 p9;clear hW10;refine qKT 7 (.agg #[.int .i64 12,.int .i64 (pa:Int),.string ⟨#[]⟩,.int .i64 0,.string ⟨#[]⟩,.string ⟨#[]⟩,.slice none 0 0,.slice none 0 0,.slice none 0 0,.slice (some ⟨w9.heap.size,0,none⟩) 1 1]) rfl (by kernel_rfl) (fun _ _ _ h=>h) (.inl ⟨by rfl,?_⟩) (by assumption) ?_
       · intro w hSw;go_simp
         try (intro hq;exfalso;omega)
       try simp only [Act.put,qsA,qsB,qsC]
       obtain ⟨r0,r1,r2,r3,r4,r5,r6,r7,r8,r9⟩:=q00 HS14.out.bb3;obtain ⟨rf0,rf1,rf2,rf3,rf4,rf5,rf6,rf7,rf8,rf9⟩:=q03 HS14.out.bb3;refine q09 (i:=8) (o:=_) (by kernel_rfl) rfl (fun K2 hK2=> ?_);go_simp
       first|refine SB.st10 (Q:=fun W=>Calls _ _ _ W _) HS14.out 3 rfl rfl fun W11 hS=> ?_|refine SB.st10 HS14.out 3 rfl rfl fun W11 hS=> ?_
       have HS15:=hQz hS;clear hS;go_wp2_with fail;refine hK2.out _ _ (fun hne=>absurd rfl hne) (fun _=> ?_);clear hK2 K2
       try simp only [Act.put,qsA,qsB,qsC]
       clear r0 rf0 r1 rf1 r2 rf2 r3 rf3 r4 rf4 r5 rf5 r6 rf6 r7 rf7 r8 rf8 r9 rf9;obtain ⟨p0,p1,p2,p3,p4,p5,p6,p7,p8,p9⟩:=q00 HS15.out.bb1;refine q09 (i:=9) (o:=_) (by kernel_rfl) rfl (fun K2 hK2=> ?_);go_simp;go_wp2_with fail;refine hK2.out _ _ (fun _=>⟨p0,p1,p2,p3,p4,p5,p6,p7,p8,p9⟩) (fun _=> ?_);clear hK2 K2
       try simp only [Act.put,qsA,qsB,qsC]
       refine q0i (by kernel_rfl) ?_ _;clear hHeld p0 p1 p2 p3 p4 p5 p6 p7 p8 p9;go_wp2_with fail;have HS16:=hQz (HS15.out.mkrow (T:=ndP 12 pa [T4]) (d:=⟨12,(pa:Int),0,⟨#[]⟩,⟨#[]⟩,⟨#[]⟩,none,none,none,some ⟨w9.heap.size,0,none⟩,0,0,0,0,0,0,1,1⟩) (fun ht hg hw=>NdI.lit (Ts:=[T4]) (ds:=[⟨op4,at4,vk4,tx4,nu4,vt4,io4,yo4,no4,ko4,iN4,ic4,yN4,yc4,nN4,nc4,kN4,kc4⟩]) 12 (pa:Int) .empty q0N rfl (by simp) hw hg (els1 (ht (T4,_) mcS))));obtain ⟨m0,m1,m2,m3,m4,m5,m6,m7,m8,m9⟩:=q00 HS16.out.bb2;refine bodyPost_ret (v:= .tuple #[.agg #[.int .i64 12,.int .i64 (pa:Int),.string ⟨#[]⟩,.int .i64 0,.string ⟨#[]⟩,.string ⟨#[]⟩,.slice none 0 0,.slice none 0 0,.slice none 0 0,.slice (some ⟨w9.heap.size,0,none⟩) 1 1],.bool true]) (by simp [results,Tryz.results156,go_sem,m0,m1,m2,m3,m4,m5,m6,m7,m8,m9]) rfl ?_;have hR:=HR.out;refine ⟨HS16.out.bo.toBt,?_⟩;rw [← hR];exact ⟨⟨_,rfl,⟨12,(pa:Int),0,⟨#[]⟩,⟨#[]⟩,⟨#[]⟩,none,none,none,some ⟨w9.heap.size,0,none⟩,0,0,0,0,0,0,1,1⟩,rfl,HS16.out.t0,fun _=>⟨rfl,by show 1≤1000;decide⟩⟩,HS16.out.px⟩
     · obtain ⟨W9,hW9⟩:∃ W,w8.drew.alloc (.cells #[.int .i64 op4,.int .i64 at4,.string tx4,.int .i64 vk4,.string nu4,.string vt4,.slice io4 iN4 ic4,.slice yo4 yN4 yc4,.slice no4 nN4 nc4,.slice ko4 kN4 kc4] 28)=W:=⟨_,rfl⟩;have HS13:=hQz (HS12.out.alloc [.int .i64 op4,.int .i64 at4,.string tx4,.int .i64 vk4,.string nu4,.string vt4,.slice io4 iN4 ic4,.slice yo4 yN4 yc4,.slice no4 nN4 nc4,.slice ko4 kN4 kc4] 28);rw [hW9] at HS13;rw [show w8.drew.heap.size=w8.heap.size from rfl] at HS13;obtain ⟨p0,p1,p2,p3,p4,p5,p6,p7,p8,p9⟩:=q00 HS13.out.bb1;go_simp;go_wp2_with fail;refine hK2.out _ _ (fun _=>⟨p0,p1,p2,p3,p4,p5,p6,p7,p8,p9⟩) (fun hHeld=> ?_);replace hHeld:=hHeld (by decide);clear hK2 K2
       try simp only [Act.put,qsA,qsB,qsC]
       clear p0 p1 p2 p3 p4 p5 p6 p7 p8 p9;refine q09 (i:=3) (o:=_) (by kernel_rfl) rfl (fun K2 hK2=> ?_);go_simp;go_at_call 199;refine (HTake.out _ HS13.out.px).mono ?_;rintro e w10 ⟨rfl,hb,hp⟩;have HS14:=hQz (HS13.out.step hb hp);clear hb hp;clear hW9;obtain ⟨p0,p1,p2,p3,p4,p5,p6,p7,p8,p9⟩:=q00 HS14.out.bb1;go_wp2_with fail;refine hK2.out _ _ (fun _=>⟨p0,p1,p2,p3,p4,p5,p6,p7,p8,p9⟩) (fun hHeld=> ?_);replace hHeld:=hHeld (by decide);clear hK2 K2
       try simp only [Act.put,qsA,qsB,qsC]
       clear p0 p1 p2 p3 p4 p5 p6 p7 p8 p9;refine qKT 4 (.int .i64 (pa:Int)) rfl (by kernel_rfl) (fun _ _ _ h=>h) (.inl ⟨by rfl,?_⟩) (by assumption) ?_
       · intro w hSw;go_simp
         try (intro hq;exfalso;omega)
       try simp only [Act.put,qsA,qsB,qsC]
       refine qKT 7 (.agg #[.int .i64 12,.int .i64 (pa:Int),.string ⟨#[]⟩,.int .i64 0,.string ⟨#[]⟩,.string ⟨#[]⟩,.slice none 0 0,.slice none 0 0,.slice none 0 0,.slice (some ⟨w8.heap.size,0,none⟩) 1 1]) rfl (by kernel_rfl) (fun _ _ _ h=>h) (.inl ⟨by rfl,?_⟩) (by assumption) ?_
       · intro w hSw;go_simp
         try (intro hq;exfalso;omega)
       try simp only [Act.put,qsA,qsB,qsC]
       obtain ⟨r0,r1,r2,r3,r4,r5,r6,r7,r8,r9⟩:=q00 HS14.out.bb3;obtain ⟨rf0,rf1,rf2,rf3,rf4,rf5,rf6,rf7,rf8,rf9⟩:=q03 HS14.out.bb3;refine q09 (i:=8) (o:=_) (by kernel_rfl) rfl (fun K2 hK2=> ?_);go_simp
       first|refine SB.st10 (Q:=fun W=>Calls _ _ _ W _) HS14.out 3 rfl rfl fun W11 hS=> ?_|refine SB.st10 HS14.out 3 rfl rfl fun W11 hS=> ?_
       have HS15:=hQz hS;clear hS;go_wp2_with fail;refine hK2.out _ _ (fun hne=>absurd rfl hne) (fun _=> ?_);clear hK2 K2
       try simp only [Act.put,qsA,qsB,qsC]
       clear r0 rf0 r1 rf1 r2 rf2 r3 rf3 r4 rf4 r5 rf5 r6 rf6 r7 rf7 r8 rf8 r9 rf9;obtain ⟨p0,p1,p2,p3,p4,p5,p6,p7,p8,p9⟩:=q00 HS15.out.bb1;refine q09 (i:=9) (o:=_) (by kernel_rfl) rfl (fun K2 hK2=> ?_);go_simp;go_wp2_with fail;refine hK2.out _ _ (fun _=>⟨p0,p1,p2,p3,p4,p5,p6,p7,p8,p9⟩) (fun _=> ?_);clear hK2 K2
       try simp only [Act.put,qsA,qsB,qsC]
       refine q0i (by kernel_rfl) ?_ _;clear hHeld p0 p1 p2 p3 p4 p5 p6 p7 p8 p9;go_wp2_with fail;have HS16:=hQz (HS15.out.mkrow (T:=ndP 12 pa [T4]) (d:=⟨12,(pa:Int),0,⟨#[]⟩,⟨#[]⟩,⟨#[]⟩,none,none,none,some ⟨w8.heap.size,0,none⟩,0,0,0,0,0,0,1,1⟩) (fun ht hg hw=>NdI.lit (Ts:=[T4]) (ds:=[⟨op4,at4,vk4,tx4,nu4,vt4,io4,yo4,no4,ko4,iN4,ic4,yN4,yc4,nN4,nc4,kN4,kc4⟩]) 12 (pa:Int) .empty q0N rfl (by simp) hw hg (els1 (ht (T4,_) mcS))));obtain ⟨m0,m1,m2,m3,m4,m5,m6,m7,m8,m9⟩:=q00 HS16.out.bb2;refine bodyPost_ret (v:= .tuple #[.agg #[.int .i64 12,.int .i64 (pa:Int),.string ⟨#[]⟩,.int .i64 0,.string ⟨#[]⟩,.string ⟨#[]⟩,.slice none 0 0,.slice none 0 0,.slice none 0 0,.slice (some ⟨w8.heap.size,0,none⟩) 1 1],.bool true]) (by simp [results,Tryz.results156,go_sem,m0,m1,m2,m3,m4,m5,m6,m7,m8,m9]) rfl ?_;have hR:=HR.out;refine ⟨HS16.out.bo.toBt,?_⟩;rw [← hR];exact ⟨⟨_,rfl,⟨12,(pa:Int),0,⟨#[]⟩,⟨#[]⟩,⟨#[]⟩,none,none,none,some ⟨w8.heap.size,0,none⟩,0,0,0,0,0,0,1,1⟩,rfl,HS16.out.t0,fun _=>⟨rfl,by show 1≤1000;decide⟩⟩,HS16.out.px⟩
   | false=>
    go_wp2_with fail;clear hW5;obtain ⟨c4,h4⟩:∃ c,syP ws t2 [97,115]=c:=⟨_,rfl⟩
    cases c4 with
    | true=>
     refine (q0p [97,115] h4 _ HS7.out.px).mono ?_;rintro e w6 ⟨rfl,hb⟩;have HS8:=hQz (HS7.out.keep hb);clear hb;have hR:=HR.out;rw [if_pos ⟨h3,h4⟩] at hR;replace HR:=hQz hR;clear hR;obtain ⟨c0,c1,c2,c3,c4,c5,c6,c7,c8,c9⟩:=q00 HS8.out.bb0;go_wp2_with fail;clear c0 c1 c2 c3 c4 c5 c6 c7 c8 c9;refine PxR.on (HBnd.out _ _ _ _ T2 op2 at2 vk2 tx2 nu2 vt2 io2 yo2 no2 ko2 iN2 ic2 yN2 yc2 nN2 nc2 kN2 kc2 HS8.out.dnW HS8.out.dbW HS8.out.px (by have:=HL4.out;have:=HM.out;omega) HS8.out.m0 (q0V h4)) (fun er q w hr hb=>⟨rfl,(HS8.out.bo.trans (Bo.ofBt hb)).toBt,by rw [← HR.out,q04 hr]⟩) ?_;intro T5 t5 o5 v w7 hr hb hp hE;replace HR:=hQz ((q02 hr).symm.trans HR.out);(try dsimp only at HR)
     have HQ7:=hQz hr;have HS9:=hQz (HS8.out.step hb hp);clear hb hp hr;obtain ⟨d,rfl,hd,hf1,hf2⟩:=hE;have HF5:=hQz (And.intro hf1 hf2);have HS10:=hQz (HS9.out.add hd);clear hd hf1 hf2;obtain ⟨op5,at5,vk5,tx5,nu5,vt5,io5,yo5,no5,ko5,iN5,ic5,yN5,yc5,nN5,nc5,kN5,kc5⟩:=d;unfold NV.v NV.l;dsimp only at HF5 ⊢;obtain ⟨r0,r1,r2,r3,r4,r5,r6,r7,r8,r9⟩:=q00 HS10.out.bb1;obtain ⟨rf0,rf1,rf2,rf3,rf4,rf5,rf6,rf7,rf8,rf9⟩:=q03 HS10.out.bb1;go_wp2_with fail;generalize hzZ:((((((((((w7).setCell ⟨u.heap.size,0,none⟩ (.int .i64 op5)).setCell ⟨u.heap.size,1,none⟩ (.int .i64 at5)).setCell ⟨u.heap.size,2,none⟩ (.string tx5)).setCell ⟨u.heap.size,3,none⟩ (.int .i64 vk5)).setCell ⟨u.heap.size,4,none⟩ (.string nu5)).setCell ⟨u.heap.size,5,none⟩ (.string vt5)).setCell ⟨u.heap.size,6,none⟩ (.slice io5 iN5 ic5)).setCell ⟨u.heap.size,7,none⟩ (.slice yo5 yN5 yc5)).setCell ⟨u.heap.size,8,none⟩ (.slice no5 nN5 nc5)).setCell ⟨u.heap.size,9,none⟩ (.slice ko5 kN5 kc5)=WZ;have PZ:=q0J HS10.out.bb1 hzZ;obtain ⟨m0,m1,m2,m3,m4,m5,m6,m7,m8,m9⟩:=q00 PZ.new;have HZ:=HS10.out.put 1 _ _ [.int .i64 op5,.int .i64 at5,.string tx5,.int .i64 vk5,.string nu5,.string vt5,.slice io5 iN5 ic5,.slice yo5 yN5 yc5,.slice no5 nN5 nc5,.slice ko5 kN5 kc5] _ rfl PZ;refine bodyPost_ret (v:= .tuple #[.agg #[.int .i64 op5,.int .i64 at5,.string tx5,.int .i64 vk5,.string nu5,.string vt5,.slice io5 iN5 ic5,.slice yo5 yN5 yc5,.slice no5 nN5 nc5,.slice ko5 kN5 kc5],.bool true]) (by simp [results,Tryz.results156,go_sem,m0,m1,m2,m3,m4,m5,m6,m7,m8,m9]) rfl ?_;have hR:=HR.out;refine ⟨HZ.bo.toBt,?_⟩;rw [← hR];exact ⟨⟨_,rfl,⟨op5,at5,vk5,tx5,nu5,vt5,io5,yo5,no5,ko5,iN5,ic5,yN5,yc5,nN5,nc5,kN5,kc5⟩,rfl,HZ.t0,fun _=>HF5.out⟩,HZ.px⟩
    | false=>
     refine (q0p [97,115] h4 _ HS7.out.px).mono ?_;rintro e w6 ⟨rfl,hb⟩;have HS8:=hQz (HS7.out.keep hb);clear hb;have hR:=HR.out;rw [if_neg (by rw [h4];simp)] at hR;replace HR:=hQz hR;clear hR;obtain ⟨c0,c1,c2,c3,c4,c5,c6,c7,c8,c9⟩:=q00 HS8.out.bb0;go_wp2_with fail;clear c0 c1 c2 c3 c4 c5 c6 c7 c8 c9;refine PxR.on (HBeh.out _ _ _ _ T2 op2 at2 vk2 tx2 nu2 vt2 io2 yo2 no2 ko2 iN2 ic2 yN2 yc2 nN2 nc2 kN2 kc2 HS8.out.dnW HS8.out.dbW HS8.out.px (by have:=HL4.out;have:=HM.out;omega) HS8.out.m0) (fun er q w hr hb=>⟨rfl,(HS8.out.bo.trans (Bo.ofBt hb)).toBt,by rw [← HR.out,q04 hr]⟩) ?_;intro T4 t4 o4 v w7 hr hb hp hE;replace HR:=hQz ((q02 hr).symm.trans HR.out);(try dsimp only at HR)
     have HQ7:=hQz hr;have HS9:=hQz (HS8.out.step hb hp);clear hb hp hr;obtain ⟨d,rfl,hd⟩:=hE;have HS10:=hQz (HS9.out.add hd);clear hd;obtain ⟨op4,at4,vk4,tx4,nu4,vt4,io4,yo4,no4,ko4,iN4,ic4,yN4,yc4,nN4,nc4,kN4,kc4⟩:=d;unfold NV.v NV.l;dsimp only;obtain ⟨W8,hW8⟩:∃ W,w7.alloc (.cells #[.int .i64 op4,.int .i64 at4,.string tx4,.int .i64 vk4,.string nu4,.string vt4,.slice io4 iN4 ic4,.slice yo4 yN4 yc4,.slice no4 nN4 nc4,.slice ko4 kN4 kc4] 28)=W:=⟨_,rfl⟩;have HS11:=hQz (HS10.out.alloc [.int .i64 op4,.int .i64 at4,.string tx4,.int .i64 vk4,.string nu4,.string vt4,.slice io4 iN4 ic4,.slice yo4 yN4 yc4,.slice no4 nN4 nc4,.slice ko4 kN4 kc4] 28);rw [hW8] at HS11;go_wp2_with fail;clear hW8;obtain ⟨c5,h5⟩:∃ c,syP ws t4 [124]=c:=⟨_,rfl⟩
     cases c5 with
     | false=>
      refine (q0p [124] h5 _ HS11.out.px).mono ?_;rintro e w9 ⟨rfl,hb⟩;have HS12:=hQz (HS11.out.keep hb);clear hb;have hR:=HR.out;rw [if_neg (by rw [h5];decide)] at hR;replace HR:=hQz hR;clear hR;obtain ⟨c0,c1,c2,c3,c4,c5,c6,c7,c8,c9⟩:=q00 HS12.out.bb0;obtain ⟨r0,r1,r2,r3,r4,r5,r6,r7,r8,r9⟩:=q00 HS12.out.bb2;obtain ⟨rf0,rf1,rf2,rf3,rf4,rf5,rf6,rf7,rf8,rf9⟩:=q03 HS12.out.bb2;go_wp2_with fail;generalize hzZ:((((((((((w9).setCell ⟨u.heap.size,0,none⟩ (.int .i64 op4)).setCell ⟨u.heap.size,1,none⟩ (.int .i64 at4)).setCell ⟨u.heap.size,2,none⟩ (.string tx4)).setCell ⟨u.heap.size,3,none⟩ (.int .i64 vk4)).setCell ⟨u.heap.size,4,none⟩ (.string nu4)).setCell ⟨u.heap.size,5,none⟩ (.string vt4)).setCell ⟨u.heap.size,6,none⟩ (.slice io4 iN4 ic4)).setCell ⟨u.heap.size,7,none⟩ (.slice yo4 yN4 yc4)).setCell ⟨u.heap.size,8,none⟩ (.slice no4 nN4 nc4)).setCell ⟨u.heap.size,9,none⟩ (.slice ko4 kN4 kc4)=WZ;have PZ:=q0J HS12.out.bb2 hzZ;obtain ⟨m0,m1,m2,m3,m4,m5,m6,m7,m8,m9⟩:=q00 PZ.new;have HZ:=HS12.out.put 2 _ _ [.int .i64 op4,.int .i64 at4,.string tx4,.int .i64 vk4,.string nu4,.string vt4,.slice io4 iN4 ic4,.slice yo4 yN4 yc4,.slice no4 nN4 nc4,.slice ko4 kN4 kc4] _ rfl PZ;refine bodyPost_ret (v:= .tuple #[.agg #[.int .i64 op4,.int .i64 at4,.string tx4,.int .i64 vk4,.string nu4,.string vt4,.slice io4 iN4 ic4,.slice yo4 yN4 yc4,.slice no4 nN4 nc4,.slice ko4 kN4 kc4],.bool false]) (by simp [results,Tryz.results156,go_sem,m0,m1,m2,m3,m4,m5,m6,m7,m8,m9]) rfl ?_;have hR:=HR.out;refine ⟨HZ.bo.toBt,?_⟩;rw [← hR];exact ⟨⟨_,rfl,⟨op4,at4,vk4,tx4,nu4,vt4,io4,yo4,no4,ko4,iN4,ic4,yN4,yc4,nN4,nc4,kN4,kc4⟩,rfl,HZ.t0,fun h=>by cases h⟩,HZ.px⟩
     | true=>
      refine (q0p [124] h5 _ HS11.out.px).mono ?_;rintro e w9 ⟨rfl,hb⟩;have HS12:=hQz (HS11.out.keep hb);clear hb;have hR:=HR.out;rw [if_pos h5] at hR;replace HR:=hQz hR;clear hR;have HTake:Hid (∀ W,PX W B so sc ws nb t4 o4→Calls Tryz.prog 199 #[.pointer (some ⟨B,0,none⟩)] W fun e w'=>e= .returned (tokV (hrP ws t4))∧Bt B W w'∧PX w' B so sc ws nb (t4+1) o4):=fun W hW=>q1l (q0V h5) W hW;generalize hrP ws t4=X at *;obtain ⟨kd,pa,fi,tx,er⟩:=X;unfold tokV at HTake;dsimp only at HR HTake;go_wp2_with fail;have HS13:=hQz (HS12.out.drew);obtain ⟨p0,p1,p2,p3,p4,p5,p6,p7,p8,p9⟩:=q00 HS13.out.bb0;refine q0r 8 (S:=(fun u1=>u1.cell? ⟨w7.heap.size,0,none⟩=some (.int .i64 op4)∧u1.cell? ⟨w7.heap.size,1,none⟩=some (.int .i64 at4)∧u1.cell? ⟨w7.heap.size,2,none⟩=some (.string tx4)∧u1.cell? ⟨w7.heap.size,3,none⟩=some (.int .i64 vk4)∧u1.cell? ⟨w7.heap.size,4,none⟩=some (.string nu4)∧u1.cell? ⟨w7.heap.size,5,none⟩=some (.string vt4)∧u1.cell? ⟨w7.heap.size,6,none⟩=some (.slice io4 iN4 ic4)∧u1.cell? ⟨w7.heap.size,7,none⟩=some (.slice yo4 yN4 yc4)∧u1.cell? ⟨w7.heap.size,8,none⟩=some (.slice no4 nN4 nc4)∧u1.cell? ⟨w7.heap.size,9,none⟩=some (.slice ko4 kN4 kc4))) (by kernel_rfl) (by exact ⟨p0,p1,p2,p3,p4,p5,p6,p7,p8,p9⟩) (fun hHeld=> ?_);clear p0 p1 p2 p3 p4 p5 p6 p7 p8 p9;refine qKT 0 (.pointer (some ⟨B,0,none⟩)) rfl (by kernel_rfl) (fun _ _ _ h=>h) (.inl ⟨by rfl,?_⟩) (by assumption) ?_
      · intro w hSw;go_simp
        try (intro hq;exfalso;omega)
      try simp only [Act.put,qsA,qsB,qsC]
      refine qKT 1 (.pointer (some ⟨B,0,none⟩)) rfl (by kernel_rfl) (fun _ _ _ h=>h) (.inl ⟨by rfl,?_⟩) (by assumption) ?_
      · intro w hSw;go_simp
        try (intro hq;exfalso;omega)
      try simp only [Act.put,qsA,qsB,qsC]
      refine qKT 2 (.pointer (some ⟨B,0,none⟩)) rfl (by kernel_rfl) (fun _ _ _ h=>h) (.inl ⟨by rfl,?_⟩) (by assumption) ?_
      · intro w hSw;go_simp
        try (intro hq;exfalso;omega)
      try simp only [Act.put,qsA,qsB,qsC]
      refine qKT 5 (.agg #[.int .i64 op4,.int .i64 at4,.string tx4,.int .i64 vk4,.string nu4,.string vt4,.slice io4 iN4 ic4,.slice yo4 yN4 yc4,.slice no4 nN4 nc4,.slice ko4 kN4 kc4]) rfl (by kernel_rfl) (fun _ _ _ h=>h) (.inl ⟨by rfl,?_⟩) (by assumption) ?_
      · intro w hSw;obtain ⟨hp0,hp1,hp2,hp3,hp4,hp5,hp6,hp7,hp8,hp9⟩:=hSw;go_simp
        try (intro hq;exfalso;omega)
      try simp only [Act.put,qsA,qsB,qsC]
      refine q2c (i:=3) (j:=6) (oi:=_) (oj:=_) (by kernel_rfl) rfl rfl (fun K2 hK2=> ?_) (fun K2 hK2=> ?_)
      · go_simp;go_at_call 199;refine (HTake.out _ HS13.out.px).mono ?_;rintro e w10 ⟨rfl,hb,hp⟩;have HS14:=hQz (HS13.out.step hb hp);clear hb hp;obtain ⟨p0,p1,p2,p3,p4,p5,p6,p7,p8,p9⟩:=q00 HS14.out.bb0;go_wp2_with fail;refine hK2.out _ _ (fun _=>⟨p0,p1,p2,p3,p4,p5,p6,p7,p8,p9⟩) (fun hHeld=> ?_);replace hHeld:=hHeld (by decide);clear hK2 K2
        try simp only [Act.put,qsA,qsB,qsC]
        clear p0 p1 p2 p3 p4 p5 p6 p7 p8 p9;refine qKT 4 (.int .i64 (pa:Int)) rfl (by kernel_rfl) (fun _ _ _ h=>h) (.inl ⟨by rfl,?_⟩) (by assumption) ?_
        · intro w hSw;go_simp
          try (intro hq;exfalso;omega)
        try simp only [Act.put,qsA,qsB,qsC]
        obtain ⟨W11,hW11⟩:∃ W,w10.alloc (.cells #[.int .i64 op4,.int .i64 at4,.string tx4,.int .i64 vk4,.string nu4,.string vt4,.slice io4 iN4 ic4,.slice yo4 yN4 yc4,.slice no4 nN4 nc4,.slice ko4 kN4 kc4] 28)=W:=⟨_,rfl⟩;have HS15:=hQz (HS14.out.alloc [.int .i64 op4,.int .i64 at4,.string tx4,.int .i64 vk4,.string nu4,.string vt4,.slice io4 iN4 ic4,.slice yo4 yN4 yc4,.slice no4 nN4 nc4,.slice ko4 kN4 kc4] 28);rw [hW11] at HS15;obtain ⟨p0,p1,p2,p3,p4,p5,p6,p7,p8,p9⟩:=q00 HS15.out.bb1;refine q09 (i:=6) (o:=_) (by kernel_rfl) rfl (fun K2 hK2=> ?_);go_simp;go_wp2_with fail;refine hK2.out _ _ (fun _=>⟨p0,p1,p2,p3,p4,p5,p6,p7,p8,p9⟩) (fun hHeld=> ?_);replace hHeld:=hHeld (by decide);clear hK2 K2
        try simp only [Act.put,qsA,qsB,qsC]
        clear p0 p1 p2 p3 p4 p5 p6 p7 p8 p9;clear hW11;refine qKT 7 (.agg #[.int .i64 12,.int .i64 (pa:Int),.string ⟨#[]⟩,.int .i64 0,.string ⟨#[]⟩,.string ⟨#[]⟩,.slice none 0 0,.slice none 0 0,.slice none 0 0,.slice (some ⟨w10.heap.size,0,none⟩) 1 1]) rfl (by kernel_rfl) (fun _ _ _ h=>h) (.inl ⟨by rfl,?_⟩) (by assumption) ?_
        · intro w hSw;go_simp
          try (intro hq;exfalso;omega)
        try simp only [Act.put,qsA,qsB,qsC]
        obtain ⟨r0,r1,r2,r3,r4,r5,r6,r7,r8,r9⟩:=q00 HS15.out.bb3;obtain ⟨rf0,rf1,rf2,rf3,rf4,rf5,rf6,rf7,rf8,rf9⟩:=q03 HS15.out.bb3;refine q09 (i:=8) (o:=_) (by kernel_rfl) rfl (fun K2 hK2=> ?_);go_simp
        first|refine SB.st10 (Q:=fun W=>Calls _ _ _ W _) HS15.out 3 rfl rfl fun W12 hS=> ?_|refine SB.st10 HS15.out 3 rfl rfl fun W12 hS=> ?_
        have HS16:=hQz hS;clear hS;go_wp2_with fail;refine hK2.out _ _ (fun hne=>absurd rfl hne) (fun _=> ?_);clear hK2 K2
        try simp only [Act.put,qsA,qsB,qsC]
        clear r0 rf0 r1 rf1 r2 rf2 r3 rf3 r4 rf4 r5 rf5 r6 rf6 r7 rf7 r8 rf8 r9 rf9;obtain ⟨p0,p1,p2,p3,p4,p5,p6,p7,p8,p9⟩:=q00 HS16.out.bb1;refine q09 (i:=9) (o:=_) (by kernel_rfl) rfl (fun K2 hK2=> ?_);go_simp;go_wp2_with fail;refine hK2.out _ _ (fun _=>⟨p0,p1,p2,p3,p4,p5,p6,p7,p8,p9⟩) (fun _=> ?_);clear hK2 K2
        try simp only [Act.put,qsA,qsB,qsC]
        refine q0i (by kernel_rfl) ?_ _;clear hHeld p0 p1 p2 p3 p4 p5 p6 p7 p8 p9;go_wp2_with fail;have HS17:=hQz (HS16.out.mkrow (T:=ndP 12 pa [T4]) (d:=⟨12,(pa:Int),0,⟨#[]⟩,⟨#[]⟩,⟨#[]⟩,none,none,none,some ⟨w10.heap.size,0,none⟩,0,0,0,0,0,0,1,1⟩) (fun ht hg hw=>NdI.lit (Ts:=[T4]) (ds:=[⟨op4,at4,vk4,tx4,nu4,vt4,io4,yo4,no4,ko4,iN4,ic4,yN4,yc4,nN4,nc4,kN4,kc4⟩]) 12 (pa:Int) .empty q0N rfl (by simp) hw hg (els1 (ht (T4,_) mcS))));obtain ⟨m0,m1,m2,m3,m4,m5,m6,m7,m8,m9⟩:=q00 HS17.out.bb2;refine bodyPost_ret (v:= .tuple #[.agg #[.int .i64 12,.int .i64 (pa:Int),.string ⟨#[]⟩,.int .i64 0,.string ⟨#[]⟩,.string ⟨#[]⟩,.slice none 0 0,.slice none 0 0,.slice none 0 0,.slice (some ⟨w10.heap.size,0,none⟩) 1 1],.bool true]) (by simp [results,Tryz.results156,go_sem,m0,m1,m2,m3,m4,m5,m6,m7,m8,m9]) rfl ?_;have hR:=HR.out;refine ⟨HS17.out.bo.toBt,?_⟩;rw [← hR];exact ⟨⟨_,rfl,⟨12,(pa:Int),0,⟨#[]⟩,⟨#[]⟩,⟨#[]⟩,none,none,none,some ⟨w10.heap.size,0,none⟩,0,0,0,0,0,0,1,1⟩,rfl,HS17.out.t0,fun _=>⟨rfl,by show 1≤1000;decide⟩⟩,HS17.out.px⟩
      · obtain ⟨W10,hW10⟩:∃ W,w9.drew.alloc (.cells #[.int .i64 op4,.int .i64 at4,.string tx4,.int .i64 vk4,.string nu4,.string vt4,.slice io4 iN4 ic4,.slice yo4 yN4 yc4,.slice no4 nN4 nc4,.slice ko4 kN4 kc4] 28)=W:=⟨_,rfl⟩;have HS14:=hQz (HS13.out.alloc [.int .i64 op4,.int .i64 at4,.string tx4,.int .i64 vk4,.string nu4,.string vt4,.slice io4 iN4 ic4,.slice yo4 yN4 yc4,.slice no4 nN4 nc4,.slice ko4 kN4 kc4] 28);rw [hW10] at HS14;rw [show w9.drew.heap.size=w9.heap.size from rfl] at HS14;obtain ⟨p0,p1,p2,p3,p4,p5,p6,p7,p8,p9⟩:=q00 HS14.out.bb1;go_simp;go_wp2_with fail;refine hK2.out _ _ (fun _=>⟨p0,p1,p2,p3,p4,p5,p6,p7,p8,p9⟩) (fun hHeld=> ?_);replace hHeld:=hHeld (by decide);clear hK2 K2
        try simp only [Act.put,qsA,qsB,qsC]
        clear p0 p1 p2 p3 p4 p5 p6 p7 p8 p9;refine q09 (i:=3) (o:=_) (by kernel_rfl) rfl (fun K2 hK2=> ?_);go_simp;go_at_call 199;refine (HTake.out _ HS14.out.px).mono ?_;rintro e w11 ⟨rfl,hb,hp⟩;have HS15:=hQz (HS14.out.step hb hp);clear hb hp;clear hW10;obtain ⟨p0,p1,p2,p3,p4,p5,p6,p7,p8,p9⟩:=q00 HS15.out.bb1;go_wp2_with fail;refine hK2.out _ _ (fun _=>⟨p0,p1,p2,p3,p4,p5,p6,p7,p8,p9⟩) (fun hHeld=> ?_);replace hHeld:=hHeld (by decide);clear hK2 K2
        try simp only [Act.put,qsA,qsB,qsC]
        clear p0 p1 p2 p3 p4 p5 p6 p7 p8 p9;refine qKT 4 (.int .i64 (pa:Int)) rfl (by kernel_rfl) (fun _ _ _ h=>h) (.inl ⟨by rfl,?_⟩) (by assumption) ?_
        · intro w hSw;go_simp
          try (intro hq;exfalso;omega)
        try simp only [Act.put,qsA,qsB,qsC]
        refine qKT 7 (.agg #[.int .i64 12,.int .i64 (pa:Int),.string ⟨#[]⟩,.int .i64 0,.string ⟨#[]⟩,.string ⟨#[]⟩,.slice none 0 0,.slice none 0 0,.slice none 0 0,.slice (some ⟨w9.heap.size,0,none⟩) 1 1]) rfl (by kernel_rfl) (fun _ _ _ h=>h) (.inl ⟨by rfl,?_⟩) (by assumption) ?_
        · intro w hSw;go_simp
          try (intro hq;exfalso;omega)
        try simp only [Act.put,qsA,qsB,qsC]
        obtain ⟨r0,r1,r2,r3,r4,r5,r6,r7,r8,r9⟩:=q00 HS15.out.bb3;obtain ⟨rf0,rf1,rf2,rf3,rf4,rf5,rf6,rf7,rf8,rf9⟩:=q03 HS15.out.bb3;refine q09 (i:=8) (o:=_) (by kernel_rfl) rfl (fun K2 hK2=> ?_);go_simp
        first|refine SB.st10 (Q:=fun W=>Calls _ _ _ W _) HS15.out 3 rfl rfl fun W12 hS=> ?_|refine SB.st10 HS15.out 3 rfl rfl fun W12 hS=> ?_
        have HS16:=hQz hS;clear hS;go_wp2_with fail;refine hK2.out _ _ (fun hne=>absurd rfl hne) (fun _=> ?_);clear hK2 K2
        try simp only [Act.put,qsA,qsB,qsC]
        clear r0 rf0 r1 rf1 r2 rf2 r3 rf3 r4 rf4 r5 rf5 r6 rf6 r7 rf7 r8 rf8 r9 rf9;obtain ⟨p0,p1,p2,p3,p4,p5,p6,p7,p8,p9⟩:=q00 HS16.out.bb1;refine q09 (i:=9) (o:=_) (by kernel_rfl) rfl (fun K2 hK2=> ?_);go_simp;go_wp2_with fail;refine hK2.out _ _ (fun _=>⟨p0,p1,p2,p3,p4,p5,p6,p7,p8,p9⟩) (fun _=> ?_);clear hK2 K2
        try simp only [Act.put,qsA,qsB,qsC]
        refine q0i (by kernel_rfl) ?_ _;clear hHeld p0 p1 p2 p3 p4 p5 p6 p7 p8 p9;go_wp2_with fail;have HS17:=hQz (HS16.out.mkrow (T:=ndP 12 pa [T4]) (d:=⟨12,(pa:Int),0,⟨#[]⟩,⟨#[]⟩,⟨#[]⟩,none,none,none,some ⟨w9.heap.size,0,none⟩,0,0,0,0,0,0,1,1⟩) (fun ht hg hw=>NdI.lit (Ts:=[T4]) (ds:=[⟨op4,at4,vk4,tx4,nu4,vt4,io4,yo4,no4,ko4,iN4,ic4,yN4,yc4,nN4,nc4,kN4,kc4⟩]) 12 (pa:Int) .empty q0N rfl (by simp) hw hg (els1 (ht (T4,_) mcS))));obtain ⟨m0,m1,m2,m3,m4,m5,m6,m7,m8,m9⟩:=q00 HS17.out.bb2;refine bodyPost_ret (v:= .tuple #[.agg #[.int .i64 12,.int .i64 (pa:Int),.string ⟨#[]⟩,.int .i64 0,.string ⟨#[]⟩,.string ⟨#[]⟩,.slice none 0 0,.slice none 0 0,.slice none 0 0,.slice (some ⟨w9.heap.size,0,none⟩) 1 1],.bool true]) (by simp [results,Tryz.results156,go_sem,m0,m1,m2,m3,m4,m5,m6,m7,m8,m9]) rfl ?_;have hR:=HR.out;refine ⟨HS17.out.bo.toBt,?_⟩;rw [← hR];exact ⟨⟨_,rfl,⟨12,(pa:Int),0,⟨#[]⟩,⟨#[]⟩,⟨#[]⟩,none,none,none,some ⟨w9.heap.size,0,none⟩,0,0,0,0,0,0,1,1⟩,rfl,HS17.out.t0,fun _=>⟨rfl,by show 1≤1000;decide⟩⟩,HS17.out.px⟩
end
end Go.Proofs.YtdjleoglphgdgaaGreatDoor
