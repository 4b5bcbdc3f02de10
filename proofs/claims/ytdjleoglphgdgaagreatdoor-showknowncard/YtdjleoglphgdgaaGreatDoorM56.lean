import Derived.Test.YtdjleoglphgdgaaGreatDoorM49
import Derived.Test.YtdjleoglphgdgaaGreatDoorM55
set_option linter.unusedVariables false
set_option linter.unusedSimpArgs false
namespace Go.Proofs.YtdjleoglphgdgaaGreatDoor
open Go.RowKit Go.Shelf Go.Sort
def ltH:Nat→NT→Bool
 | 0,_=>false
 | h+1,A=>A.kids.all (ltH h)
def txC:Nat→NT→Bool
 | 0,_=>true
 | h+1,A=>decide (A.value.text.size≤1048576)&&A.kids.all (txC h)
theorem shT_none:∀ m,shT m nn0=[]
 | 0=>rfl
 | m+1=>by
  have e:shT (m+1) nn0=pHd (shT m nn0) nn0 0++([]++pHd (shT m nn0) nn0 0):=by rw [shT_up];rfl
  rw [e,shT_none m];rfl
theorem shT_stab:∀ (h:Nat) (A:NT),ltH h A=true→∀ m,h≤m→shT m A=shT h A
 | 0,_,hl,_,_=>by cases hl
 | h+1,A,hl,m,hm=>by
  obtain ⟨m,rfl⟩:∃ n,m=n+1:=⟨m-1,by omega⟩;rw [ltH,List.all_eq_true] at hl
  have ht:(fun i=>shT m (A.kids.getD i nn0))=fun i=>shT h (A.kids.getD i nn0):=funext fun i=>by
   by_cases hi:i<A.kids.length
   · rw [q2d hi];exact shT_stab h _ (hl _ (List.getElem_mem _)) m (by omega)
   · rw [show A.kids.getD i nn0=nn0 by rw [List.getD_eq_getElem?_getD,List.getElem?_eq_none (by omega)];rfl,shT_none,shT_none]
  rw [shT_up,shT_up];simp only;rw [ht]
theorem tx_of_c:∀ (h:Nat) (A:NT),ltH h A=true→txC h A=true→∀ m,TxB m A
 | 0,_,hl,_,_=>by cases hl
 | h+1,A,hl,hc,m=>by
  cases m with
  | zero=>trivial
  | succ m=>
   rw [ltH,List.all_eq_true] at hl;rw [txC,Bool.and_eq_true,decide_eq_true_iff,List.all_eq_true] at hc;refine ⟨hc.1,fun i hi=> ?_⟩;rw [q2d hi];exact tx_of_c h _ (hl _ (List.getElem_mem _)) (hc.2 _ (List.getElem_mem _)) m
def vtC (V:VT):Bool:=decide (V.kind=0)&&V.num.data.toList.isEmpty&&V.text.data.toList.isEmpty&&V.items.isEmpty&&V.keys.isEmpty
def vfC (op:Int) (V:VT):Bool:=if op=2 then decide (V.kind=3∨V.kind=4)&&decide (V.kind=3→0≤Pl.cmpN V.num.data.toList [48])&&q1L 1 V else vtC V
def fqC:Nat→NT→Bool
 | 0,_=>false
 | h+1,A=>mfB A.op (A.kids.length:Int)&&decide (A.op≠8∧A.op≠3∧A.op≠32)&&A.kids.all (fqC h)&&ttB A.op A.text&&vfC A.op A.value&&A.names.isEmpty
theorem vtC_eq {V:VT} (h:vtC V=true):V=vt0:=by
 obtain ⟨k,nm,tx,is,ks⟩:=V;unfold vtC at h;simp only [Bool.and_eq_true,VT.num,VT.text,VT.items,VT.keys] at h;obtain ⟨⟨⟨⟨h1,h2⟩,h3⟩,h4⟩,h5⟩:=h;have h1:k=0:=of_decide_eq_true h1;subst h1;rw [empty_l.1 h2,empty_l.1 h3,List.isEmpty_iff.1 h4,List.isEmpty_iff.1 h5];rfl
theorem fm_up {V:VT} (hk:V.kind=3∨V.kind=4) (h:q1L 1 V=true) (m:Nat):q1L (m+1) V=true:=by
 rw [q1L] at h ⊢;unfold q0L at h ⊢;rcases hk with hk|hk
 · rw [hk] at h ⊢;exact h
 · rw [hk] at h ⊢;exact h
theorem fp_of_c:∀ (h:Nat) (A:NT),fqC h A=true→∀ m,h≤m→fpN m A=true
 | 0,_,hc,_,_=>by cases hc
 | h+1,A,hc,m,hm=>by
  obtain ⟨m,rfl⟩:∃ n,m=n+1:=⟨m-1,by omega⟩;rw [fqC] at hc;simp only [Bool.and_eq_true,decide_eq_true_eq,List.all_eq_true] at hc;obtain ⟨⟨⟨⟨⟨c1,c2,c3,c4⟩,c5⟩,c6⟩,c7⟩,c8⟩:=hc;rw [fpN];simp only [Bool.and_eq_true,List.all_eq_true,List.mem_range];refine ⟨⟨⟨⟨c1,fun i hi=> ?_⟩,c6⟩,?_⟩,?_⟩
  · unfold kfB;rw [if_neg (by rintro ⟨h,_⟩;exact c2 h),if_neg (by rintro ⟨h,_⟩;exact c3 h),q2d hi];exact fp_of_c h _ (c5 _ (List.getElem_mem _)) m (by omega)
  · unfold vfC at c7;unfold vfB;by_cases h2:A.op=2
    · rw [if_pos h2,Bool.and_eq_true,Bool.and_eq_true,decide_eq_true_iff,decide_eq_true_iff] at c7;rw [if_pos h2];obtain ⟨⟨d1,d2⟩,d3⟩:=c7;have d4:=fm_up d1 d3 m;by_cases h4:A.value.kind=4
      · rw [if_pos (by omega)];exact d4
      · have h3:A.value.kind=3:=by omega
        rw [if_neg (by omega),if_pos h3,d4,decide_eq_true (d2 h3)];rfl
    · rw [if_neg h2] at c7 ⊢;rw [vtC_eq c7];exact sq_yes _
  · unfold nsB;rw [if_neg c4];exact c8
noncomputable def skC (want:List UInt8) (T:NT):Bool:=decide (shT 12 T=want)&&ltH 12 T&&txC 12 T&&fqC 12 T
def skI:Nat→ByteArray
 | 0=>⟨#[49,43,50,42,51]⟩
 | 1=>⟨#[40,49,43,50,41,42,51]⟩
 | 2=>⟨#[46,97,46,98,91,48,93,63]⟩
 | 3=>⟨#[46,91,34,97,32,98,34,93]⟩
 | 4=>⟨#[40,49,41,46,97]⟩
 | 5=>⟨#[45,40,45,49,41]⟩
 | 6=>⟨#[49,124,40,50,124,51,41]⟩
 | 7=>⟨#[40,49,124,50,41,124,51]⟩
 | 8=>⟨#[123,97,44,36,120,44,40,46,99,41,58,40,49,44,50,41,125]⟩
 | 9=>⟨#[105,102,32,46,32,116,104,101,110,32,49,32,101,110,100]⟩
 | 10=>⟨#[116,114,121,32,46,97]⟩
 | 11=>⟨#[40,116,114,121,32,46,97,32,99,97,116,99,104,32,46,98,41,46,99]⟩
 | 12=>⟨#[46,46]⟩
 | 13=>⟨#[46,101,110,100]⟩
 | _=>⟨#[]⟩
def skW:Nat→ByteArray
 | 0=>⟨#[49,32,43,32,50,32,42,32,51]⟩
 | 1=>⟨#[40,49,32,43,32,50,41,32,42,32,51]⟩
 | 2=>⟨#[46,97,46,98,91,48,93,63]⟩
 | 3=>⟨#[46,91,34,97,32,98,34,93]⟩
 | 4=>⟨#[40,49,41,46,97]⟩
 | 5=>⟨#[45,32,45,49]⟩
 | 6=>⟨#[49,32,124,32,50,32,124,32,51]⟩
 | 7=>⟨#[40,49,32,124,32,50,41,32,124,32,51]⟩
 | 8=>⟨#[123,97,58,32,46,97,44,32,120,58,32,36,120,44,32,40,46,99,41,58,32,40,49,44,32,50,41,125]⟩
 | 9=>⟨#[105,102,32,46,32,116,104,101,110,32,49,32,101,108,115,101,32,46,32,101,110,100]⟩
 | 10=>⟨#[46,97,63]⟩
 | 11=>⟨#[40,116,114,121,32,46,97,32,99,97,116,99,104,32,46,98,41,46,99]⟩
 | 12=>⟨#[114,101,99,117,114,115,101]⟩
 | 13=>⟨#[46,101,110,100]⟩
 | _=>⟨#[]⟩
theorem sk_one:((List.range 14).all fun k=>okP (psP (skI k).data.toList (skI k).size) (skC (skW k).data.toList))=true:=by kernel_rfl
theorem sk_all (k:Nat) (hk:k<14):okP (psP (skI k).data.toList (skI k).size) (skC (skW k).data.toList)=true∧(skI k).size≤16777216:=by
 refine ⟨List.all_eq_true.1 sk_one k (List.mem_range.2 hk),?_⟩;have:∀ j,j<14→(skI j).size≤16777216:=by decide
 exact this k hk
theorem skX (w:World) (k:Nat) (hk:k<14):Calls Tryz.prog 15 #[.int .i64 (k:Int)] w fun e w'=>e= .returned (.tuple #[.string (skI k),.string (skW k)])∧Below w.heap.size w w':=by
 have h:k=0∨k=1∨k=2∨k=3∨k=4∨k=5∨k=6∨k=7∨k=8∨k=9∨k=10∨k=11∨k=12∨k=13:=by omega
 rcases h with rfl|rfl|rfl|rfl|rfl|rfl|rfl|rfl|rfl|rfl|rfl|rfl|rfl|rfl
 all_goals
  go_in;go_wp2_with fail;refine bodyPost_ret ?_ rfl ⟨rfl,Below.refl _ _⟩;simp [results,Tryz.results15,go_sem,skI,skW]
end Go.Proofs.YtdjleoglphgdgaaGreatDoor
namespace Go.Proofs.YtdjleoglphgdgaaGreatDoor
open Go.RowKit Go.Shelf Go.Sort
attribute [local go_sem] Oper.semAt_some
theorem sk_read (k:Nat) (hk:k<14) (u:World) (hE:ErrIn u) (hO:OpsX u) (hT:PTabIn u):Calls Tryz.prog 12 #[.string (skI k)] u fun e w'=>∃ d:NV,e= .returned (.tuple #[d.v,.int .i64 0,.int .i64 0])∧Below u.heap.size u w'∧
 Hid (∀ x,Calls Tryz.prog 11 #[d.v] (w'.alloc x) fun e w2=>e= .returned (.tuple #[.string (skW k),.int .i64 0])∧Below (w'.alloc x).heap.size (w'.alloc x) w2):=by
 obtain ⟨h1,h2⟩:=sk_all k hk;refine (parse_ok h1 h2 u hE hO).mono ?_;rintro e w' ⟨T,d,h1,he,hb,h4⟩
 · obtain ⟨m,hm⟩:∃ m,InA w' m T d.v:=by
    obtain ⟨m,h⟩:=h4;exact ⟨m,h.keep (Nat.le_refl _) (fun _ _ _=>rfl) (fun _ _ _=>trivial)⟩
   have h1:skC (skW k).data.toList T=true:=h1;unfold skC at h1;rw [Bool.and_eq_true,Bool.and_eq_true,Bool.and_eq_true,decide_eq_true_iff] at h1;obtain ⟨⟨⟨c1,c2⟩,c3⟩,c4⟩:=h1;refine ⟨d,he,hb,fun x=> ?_⟩;have hin:InA (w'.alloc x) (m+12) T d.v:=(hm.low (q0a w' x)).le (by omega);have hf:=fp_of_c 12 T c4 (m+12) (by omega);have hs:shT (m+12) T=(skW k).data.toList:=by rw [shT_stab 12 T c2 _ (by omega),c1]
   have hT2:PTabIn (w'.alloc x):=hT.keep (hb.trans ((q0a w' x).mono hb.size))
   have h5:=w_TextP (m+12) T d.v (w'.alloc x) hin hT2 (tx_of_c 12 T c2 c3 _) (by rw [hs,show (skW k).data.toList.length=(skW k).size by rw [Array.length_toList];rfl];have:∀ j,j<14→(skW j).size≤140737488355328:=by decide
                                                                                 exact this k hk)
   unfold txAP txE at h5;rw [if_pos hf,if_pos hf,hs] at h5;exact h5
set_option maxRecDepth 100000 in
set_option maxHeartbeats 3200000 in
theorem w_ShowKnown (w:World) (hE:ErrIn w) (hO:OpsX w) (hT:PTabIn w):Calls Tryz.prog 6 #[] w fun e w'=>e= .returned (.bool true)∧Below w.heap.size w w':=by
 have HP:Hid (∀ k,k<14→∀ u,Below w.heap.size w u→Calls Tryz.prog 12 #[.string (skI k)] u fun e w'=>∃ d:NV,e= .returned (.tuple #[d.v,.int .i64 0,.int .i64 0])∧Below u.heap.size u w'∧
  Hid (∀ x,Calls Tryz.prog 11 #[d.v] (w'.alloc x) fun e w2=>e= .returned (.tuple #[.string (skW k),.int .i64 0])∧Below (w'.alloc x).heap.size (w'.alloc x) w2)):=fun k hk u hb=>sk_read k hk u (hE.keep hb) (hO.keep hb) (hT.keep hb)
 have HWk:Hid (∀ u,Below w.heap.size w u→Calls Tryz.prog 9 #[] u fun e w'=>e= .returned (.bool true)∧Below u.heap.size u w'):=fun u hb=>w_works u (hT.keep hb);clear hE hO hT;go_in;go_wp2_with fail
 go_loopw [1] (fun v1 wr=>∃ k:Nat,v1= .int .i64 (k:Int)∧Hid (k≤14)∧Hid (Below w.heap.size w wr)) (fun v1 _=>14-(intOf v1).toNat)
 case atStart=>exact ⟨0,rfl,(by show _≤_;omega),Below.refl _ _⟩
 case round=>
  obtain ⟨k,rfl,Hk,HB0⟩:=hrel;by_cases hk:k<14
  · have HRf:Hid (∀ u,Calls Tryz.prog 15 #[.int .i64 (k:Int)] u fun e w'=>e= .returned (.tuple #[.string (skI k),.string (skW k)])∧Below u.heap.size u w'):=fun u=>skX u k hk;have HPk:=hQz (HP.out k hk);have hk1:(k:Int)<14:=by omega
    have hk2:(0:Int)≤(k:Int):=by omega
    generalize skI k=s at *;generalize skW k=wt at *;go_wp2_with fail;refine (HRf.out _).mono ?_;rintro e w1 ⟨rfl,hb⟩;have HB1:=hQz (HB0.out.trans (hb.mono HB0.out.size));clear hb;go_wp2_with fail;refine (HPk.out _ HB1.out).mono ?_;rintro e w2 ⟨⟨op1,at1,vk1,tx1,nu1,vt1,io1,yo1,no1,ko1,iN1,ic1,yN1,yc1,nN1,nc1,kN1,kc1⟩,rfl,hb,HTx⟩;have HB2:=hQz (HB1.out.trans (hb.mono HB1.out.size));clear hb;unfold NV.v NV.l at HTx ⊢;dsimp only at HTx ⊢;go_wp2_with fail;refine (HTx.out _).mono ?_;rintro e w3 ⟨rfl,hb⟩;have HB3:=hQz ((HB2.out.trans ((q0a w2 _).mono HB2.out.size)).trans (hb.mono (HB2.out.trans ((q0a w2 _).mono HB2.out.size)).size));clear hb HTx;go_wp2_with fail;go_roundw
    case rel=>exact ⟨k+1,by first|rfl|simp,(by show _≤_;omega),HB3.out⟩
    case measure=>simp [intOf];omega
  · have hk1:¬ (k:Int)<14:=by omega
    clear HP Hk;go_wp2_with fail;refine (HWk.out _ HB0.out).mono ?_;rintro e w1 ⟨rfl,hb⟩;have HB1:=hQz (HB0.out.trans (hb.mono HB0.out.size));clear hb;go_wp2_with fail;go_ret;exact ⟨rfl,HB1.out⟩
end Go.Proofs.YtdjleoglphgdgaaGreatDoor
