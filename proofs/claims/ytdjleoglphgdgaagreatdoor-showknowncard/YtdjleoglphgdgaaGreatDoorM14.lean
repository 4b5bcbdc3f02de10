import Derived.Test.YtdjleoglphgdgaaGreatDoorM13
import Derived.Test.YtdjleoglphgdgaaGreatDoorM6
set_option linter.unusedVariables false
set_option linter.unusedSimpArgs false
namespace Go.Proofs.YtdjleoglphgdgaaGreatDoor
open Go.RowKit
set_option maxRecDepth 100000
set_option maxHeartbeats 12800000
theorem conv_zero (w:World) (p:Option Addr) (c:Nat):(convert 48 9 (.slice p 0 c)).run Tryz.prog w= .ok (.string ByteArray.empty) w:=by
 rw [run_convert_bytes_string w 48 9 5 _ 0 c Tryz.underlying48 Tryz.underlying5 Tryz.underlying9]
 cases p <;> simp [Conv.bytesToString,loadCells]
 all_goals rfl
theorem conv_own {wr:World} {base n:Nat} {l:List UInt8} {ao:Option Addr} {cap:Nat} (h1:l.length=n) (h3:wr.ownsRow base 5 1 (.slice ao n cap) n (Lib.byteCells l)):(convert 48 9 (.slice ao n cap)).run Tryz.prog wr= .ok (.string ⟨l.toArray⟩) wr:=by
 by_cases hn:0<n
 · obtain ⟨g,cap',hv⟩:=own_some h3 hn
   cases hv
   exact bytes_conv h1 h3
 · have e:n=0:=by omega
   subst e;have e2:l=[]:=List.eq_nil_of_length_eq_zero h1;subst e2;exact conv_zero wr ao cap
theorem txt_snoc (zs:List Nat) (z:Nat):txt (zs++[z])=txt zs++enc z:=by simp [txt]
theorem s_47 (s:ByteArray) (k:Nat) (post:List UInt8) (w:World) (hd:s.data.toList.drop k=92::47::post) (hs:s.size≤4611686018427387904):
 Calls Tryz.prog 216 #[.string s,.int .i64 (k:Int)] w fun e w'=>e= .returned (.tuple #[.int .i32 47,.bool true])∧w'=w:=by
 have hlt:k+2≤s.size:=by
  have:=congrArg List.length hd;rw [List.length_drop,Array.length_toList] at this;have e2:s.data.size=s.size:=rfl;simp only [List.length_cons] at this;omega
 have hk0:k<s.size:=by omega
 have hk1:k+1<s.size:=by omega
 have g0:s[k]=92:=q1o hd hk0;have g1:s[k+1]=47:=q1o (q1h hd) hk1;have hi0:(k:Int)<(s.size:Int):=by omega
 have hi1:(k:Int)+1<(s.size:Int):=by omega
 have hne:((k:Int)+1==(s.size:Int))=false:=by rw [bqZ];omega
 have HI:=hQz (fun u=>Tryz.strings_IndexByte ⟨#[34,92,47,98,102,110,114,116]⟩ 47 u);rw [show Lib.indexByte (ByteArray.mk #[34,92,47,98,102,110,114,116]).data.toList (47:Int).toNat.toUInt8=2 by decide] at HI;clear hd;go_enter Tryz.func216,Tryz.ntmps216;go_wp2_with fail;refine (HI.out _).mono ?_;rintro e w1 ⟨rfl,hw⟩;obtain rfl:=hw.symm;go_wp2_with fail
 go_ret2
 have hw:wrap32 47=47:=by first|decide|rfl|simp [wrap32]
 exact ⟨by show Ending.returned (.tuple #[.int .i32 (wrap32 47),.bool true])=_;rw [hw],rfl⟩
def RuneB (w w':World) (e:Ending) (P:Int→Bool→Prop):Prop:=∃ r b,e= .returned (.tuple #[.int .i32 r,.bool b])∧P r b∧Below w.heap.size w w'
theorem sign_none (c:UInt8) (h:c≠34∧c≠92∧c≠47∧c≠98∧c≠102∧c≠110∧c≠114∧c≠116):Lib.indexByte (ByteArray.mk #[34,92,47,98,102,110,114,116]).data.toList ((c.toNat:Nat):Int).toNat.toUInt8= -1:=by
 have:∀ m:Fin 256,(m.val≠34∧m.val≠92∧m.val≠47∧m.val≠98∧m.val≠102∧m.val≠110∧m.val≠114∧m.val≠116)→Lib.indexByte (ByteArray.mk #[34,92,47,98,102,110,114,116]).data.toList ((m.val:Nat):Int).toNat.toUInt8= -1:=by decide
 have hn:∀ k:UInt8,c≠k→c.toNat≠k.toNat:=fun k hk e=>hk (UInt8.toNat_inj.1 e);exact this ⟨c.toNat,c.toNat_lt⟩ ⟨hn 34 h.1,hn 92 h.2.1,hn 47 h.2.2.1,hn 98 h.2.2.2.1,hn 102 h.2.2.2.2.1,hn 110 h.2.2.2.2.2.1,hn 114 h.2.2.2.2.2.2.1,hn 116 h.2.2.2.2.2.2.2⟩
def ErrIn (w:World):Prop:=∃ ev,w.cell? ⟨3,0,none⟩=some ev∧(ev= .nilIface∨∃ te pe,ev= .iface te pe)
theorem ErrIn.keep {w w':World} (h:ErrIn w) (hb:Below w.heap.size w w'):ErrIn w':=by
 obtain ⟨ev,h1,h2⟩:=h;refine ⟨ev,(hb.cell (p:=⟨3,0,none⟩) ?_).trans h1,h2⟩;show 3<w.heap.size;rcases Nat.lt_or_ge 3 w.heap.size with h|h
 · exact h
 · simp [World.cell?,Array.getElem?_eq_none h] at h1
theorem w_parse16_bad (t:ByteArray) (w:World) (ht:t.size=4) (hh:t.data.toList.all q1j=false) (hE:ErrIn w):
 Calls Tryz.prog 235 #[.string t,.int .i64 16,.int .i64 16] w fun e w'=>∃ T v,e= .returned (.tuple #[.int .u64 0,.iface T v])∧Below w.heap.size w w':=by
 have HC:=hQz (w_iparse16_bad t w ht hh);have HE:=hQz hE;have hts:t.size≤281474976710656:=by omega
 clear ht hh hE;go_enter Tryz.func235,Tryz.ntmps235;go_wp2_with fail;refine HC.out.mono ?_;rintro e w1 ⟨rfl,hb1⟩;have HB:=hQz hb1;obtain ⟨ev,hv,hev⟩:=HE.out.keep hb1;have HT:=hQz (Tryz.strconv_toError_syntax ⟨#[80,97,114,115,101,85,105,110,116]⟩ t 16 16 ev w1 hts hv hev);clear hb1 HC hv hev HE;go_wp2_with fail;refine HT.out.mono ?_;rintro e w2 ⟨N,rfl,_,_,hb2⟩;have HB2:=hQz (q1s HB.out hb2);clear hb2 HT;go_wp2_with fail
 go_ret2
 exact ⟨_,_,rfl,HB2.out⟩
theorem encodeRune_rn (r:Int):Lib.encodeRune r=enc (rn r):=by
 cases hv:Lib.validRune r with
 | true=>
  have hv':decide ((0≤r∧r<0xD800)∨(0xDFFF<r∧r≤0x10FFFF))=true:=hv;have h:=of_decide_eq_true hv';have e:rn r=r.toNat:=by unfold rn;rw [hv];rfl
  have:=q2m (rn r) (rn_isR r);rw [show ((rn r:Nat):Int)=r by rw [e];omega] at this;exact this
 | false=>
  have hv':decide ((0≤r∧r<0xD800)∨(0xDFFF<r∧r≤0x10FFFF))=false:=hv;have h:=of_decide_eq_false hv';have e:rn r=65533:=by unfold rn;rw [hv];rfl
  rw [e,q2q];unfold Lib.encodeRune Lib.encodeRuneZ;rw [if_neg (by omega),if_neg (by omega),if_neg (by omega),if_neg (by omega)];rfl
inductive VT where
 | mk (kind:Int) (num text:ByteArray) (items:List VT) (keys:List ByteArray)
def VT.kind:VT→Int| .mk k _ _ _ _=>k
def VT.num:VT→ByteArray| .mk _ n _ _ _=>n
def VT.text:VT→ByteArray| .mk _ _ t _ _=>t
def VT.items:VT→List VT| .mk _ _ _ i _=>i
def VT.keys:VT→List ByteArray| .mk _ _ _ _ k=>k
structure KIn (W:World) (ko:Option Addr) (keys:List ByteArray):Prop where
 row:0<keys.length→∃ b off,ko=some ⟨b,off,none⟩∧b<W.heap.size∧∀ i,i<keys.length→W.cell? ⟨b,off+i,none⟩=some (.string (keys.getD i .empty))
theorem KIn.keep {W W':World} {ko:Option Addr} {keys:List ByteArray} (h:KIn W ko keys) (hb:Below W.heap.size W W'):KIn W' ko keys:=by
 refine ⟨fun h0=> ?_⟩;obtain ⟨b,off,e,hl,hc⟩:=h.row h0;exact ⟨b,off,e,Nat.lt_of_lt_of_le hl hb.size,fun i hi=>(hb.cell (p:=⟨b,off+i,none⟩) hl).trans (hc i hi)⟩
def InH (W:World):Nat→VT→Value→Prop
 | 0,_,_=>False
 | h+1,T,v=>∃ (io:Option Addr) (icap:Nat) (ko:Option Addr) (kcap:Nat),
    v= .agg #[.int .i64 T.kind,.string T.num,.string T.text,.slice io T.items.length icap,.slice ko T.keys.length kcap]∧
    T.num.size≤140737488355328∧T.text.size≤140737488355328∧T.items.length≤140737488355328∧T.keys.length≤140737488355328∧T.items.length≤icap∧T.keys.length≤kcap∧
    (∀ k∈T.keys,k.size≤140737488355328)∧KIn W ko T.keys∧
    (0<T.items.length→∃ b off,io=some ⟨b,off,none⟩∧b<W.heap.size∧∀ i,(hi:i<T.items.length)→∃ v0 v1 v2 v3 v4:Value,
     (W.cell? ⟨b,off+i*5,none⟩=some v0∧W.cell? ⟨b,off+i*5+1,none⟩=some v1∧W.cell? ⟨b,off+i*5+2,none⟩=some v2∧W.cell? ⟨b,off+i*5+3,none⟩=some v3∧W.cell? ⟨b,off+i*5+4,none⟩=some v4)∧InH W h T.items[i] (.agg #[v0,v1,v2,v3,v4]))
theorem InH.keep {W W':World} (hb:Below W.heap.size W W'):∀ {h:Nat} {T:VT} {v:Value},InH W h T v→InH W' h T v
 | 0,_,_,h=>h
 | h+1,T,v,hI=>by
  obtain ⟨io,icap,ko,kcap,e,a1,a2,a3,a4,a5,a6,a7,hk,hi⟩:=hI;refine ⟨io,icap,ko,kcap,e,a1,a2,a3,a4,a5,a6,a7,hk.keep hb,fun h0=> ?_⟩;obtain ⟨b,off,e2,hl,hc⟩:=hi h0;refine ⟨b,off,e2,Nat.lt_of_lt_of_le hl hb.size,fun i hil=> ?_⟩;obtain ⟨v0,v1,v2,v3,v4,⟨c0,c1,c2,c3,c4⟩,ht⟩:=hc i hil;exact ⟨v0,v1,v2,v3,v4,⟨(hb.cell (p:=⟨_,_,_⟩) hl).trans c0,(hb.cell (p:=⟨_,_,_⟩) hl).trans c1,(hb.cell (p:=⟨_,_,_⟩) hl).trans c2,(hb.cell (p:=⟨_,_,_⟩) hl).trans c3,(hb.cell (p:=⟨_,_,_⟩) hl).trans c4⟩,InH.keep hb ht⟩
structure IIn (W:World) (h:Nat) (io:Option Addr) (ts:List VT):Prop where
 row:0<ts.length→∃ b off,io=some ⟨b,off,none⟩∧b<W.heap.size∧∀ i,(hi:i<ts.length)→∃ v0 v1 v2 v3 v4:Value,
     (W.cell? ⟨b,off+i*5,none⟩=some v0∧W.cell? ⟨b,off+i*5+1,none⟩=some v1∧W.cell? ⟨b,off+i*5+2,none⟩=some v2∧W.cell? ⟨b,off+i*5+3,none⟩=some v3∧W.cell? ⟨b,off+i*5+4,none⟩=some v4)∧InH W h ts[i] (.agg #[v0,v1,v2,v3,v4])
theorem IIn.keep {W W':World} {h:Nat} {io:Option Addr} {ts:List VT} (hI:IIn W h io ts) (hb:Below W.heap.size W W'):IIn W' h io ts:=by
 refine ⟨fun h0=> ?_⟩;obtain ⟨b,off,e2,hl,hc⟩:=hI.row h0;refine ⟨b,off,e2,Nat.lt_of_lt_of_le hl hb.size,fun i hil=> ?_⟩;obtain ⟨v0,v1,v2,v3,v4,⟨c0,c1,c2,c3,c4⟩,ht⟩:=hc i hil;exact ⟨v0,v1,v2,v3,v4,⟨(hb.cell (p:=⟨_,_,_⟩) hl).trans c0,(hb.cell (p:=⟨_,_,_⟩) hl).trans c1,(hb.cell (p:=⟨_,_,_⟩) hl).trans c2,(hb.cell (p:=⟨_,_,_⟩) hl).trans c3,(hb.cell (p:=⟨_,_,_⟩) hl).trans c4⟩,InH.keep hb ht⟩
structure VBx (w u:World) (a b c d e:Value):Prop where
 below:Below w.heap.size w u
 c0:u.cell? ⟨w.heap.size,0,none⟩=some a
 c1:u.cell? ⟨w.heap.size,1,none⟩=some b
 c2:u.cell? ⟨w.heap.size,2,none⟩=some c
 c3:u.cell? ⟨w.heap.size,3,none⟩=some d
 c4:u.cell? ⟨w.heap.size,4,none⟩=some e
 lt:w.heap.size<u.heap.size
theorem VBx.keep {w u u':World} {a b c d e:Value} (h:VBx w u a b c d e) (hb:Below u.heap.size u u'):VBx w u' a b c d e:=
 ⟨h.below.trans (hb.mono h.below.size),(hb.cell (p:=⟨_,_,_⟩) h.lt).trans h.c0,(hb.cell (p:=⟨_,_,_⟩) h.lt).trans h.c1,(hb.cell (p:=⟨_,_,_⟩) h.lt).trans h.c2,(hb.cell (p:=⟨_,_,_⟩) h.lt).trans h.c3,(hb.cell (p:=⟨_,_,_⟩) h.lt).trans h.c4,Nat.lt_of_lt_of_le h.lt hb.size⟩
theorem VBx.drew {w u:World} {a b c d e:Value} (h:VBx w u a b c d e):VBx w u.drew a b c d e:=⟨h.below.drew,h.c0,h.c1,h.c2,h.c3,h.c4,h.lt⟩
theorem vbx_new (w:World) (a b c d e:Value):VBx w (w.alloc (.cells #[a,b,c,d,e] 25)) a b c d e:=
 ⟨(Below.refl _ _).alloc (Nat.le_refl _) _,by simp [go_sem],by simp [go_sem],by simp [go_sem],by simp [go_sem],by simp [go_sem],by simp⟩
end Go.Proofs.YtdjleoglphgdgaaGreatDoor
