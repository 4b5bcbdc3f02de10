import Derived.Test.YtbpopnafcpfifaaGreatDoorM27
set_option linter.unusedVariables false
set_option linter.unusedSimpArgs false
namespace Go.Proofs.YtbpopnafcpfifaaGreatDoor
open Go.RowKit Go.Shelf
set_option maxRecDepth 100000
set_option maxHeartbeats 12800000
theorem mkW_first {l:List UInt8} {p:Nat} (hp:p<l.length) (h:(l.getD p 0).toNat=36):mkW l p=[]:=by
 have e:=q0M hp;have e36:l.getD p 0=36:=by apply UInt8.toNat_inj.1;exact h
 have hno:∀ x∈mkL,x.head? ≠some 36:=by decide
 have hf:∀ k,mkB ((l.drop p).take (k+1))=false:=fun k=>by
  cases hb:mkB ((l.drop p).take (k+1)) with
  | false=>rfl
  | true=>
   have hm:=List.contains_iff_mem.1 hb;exact absurd (by rw [e,e36];rfl) (hno _ hm)
 unfold mkW;rw [if_neg (by rw [hf 2];decide),if_neg (by rw [hf 1];decide),if_neg (by rw [hf 0];decide)]
theorem w_plD1 (s:ByteArray) (p:Nat) (w:World) (hp:p<s.size) (hs:s.size≤1073741824) (hle:leB s[p]=false) (hc:s[p].toNat=36) (h1:¬ p+1<s.size):
 Calls Tryz.prog 16 #[.string s,.int .i64 (p:Int)] w fun e w'=>PlR (plT s.data.toList p) p w w' e:=by
 have HLe:=hQz (fun u=>q0G s[p] u);have HDg:=hQz (fun u=>q1w s[p] u);have hgd:=q0f hp;have hi0:(0:Int)≤(p:Int):=by omega
 have hi1:(p:Int)<(s.size:Int):=by omega
 obtain ⟨xi,hxi⟩:∃ xi:Int,((s[p].toNat:Nat):Int)=xi:=⟨_,rfl⟩;rw [hxi] at HLe HDg;have hlt:p<s.data.toList.length:=by rw [q08];exact hp
 unfold plT;rw [hgd];rw [if_neg (by rw [hle];decide)];rw [hle] at HLe;have hdg:dgB s[p]=false:=by unfold dgB;exact decide_eq_false (by omega)
 rw [hdg] at HDg
 have hnW:q0e s.data.toList (p+1)=[]:=by
  unfold q0e;rw [if_neg];rintro ⟨g1,g2⟩;rw [q08] at g1;exact h1 g1
 have hi2:¬ (p:Int)+1<(s.size:Int):=by omega
 have hv:varT s.data.toList p=⟨0,p,0,[],160⟩:=by unfold varT;rw [hnW];rfl
 have hmk0:mkW s.data.toList p=[]:=by
  have hb:=mkW_first hlt;rw [hgd] at hb;exact hb (by omega)
 rw [if_pos hc,hv];have hvm:(⟨0,p,0,[],160⟩:Tok)=q1F s.data.toList p:=by unfold q1F;rw [hmk0];rfl
 rw [hvm];clear hv hmk0 hvm;obtain rfl:36=xi:=by omega
 clear hnW;have HMk:=hQz (fun u=>w_rmark s p u hp (by omega));have hrm:=rmk_eq hlt;have hmle:=q2W s.data.toList p;rw [q08] at hmle
 have HXT:Hid (∀ m,m=rmk s.data.toList p→s.extract p (p+m)=⟨(mkW s.data.toList p).toArray⟩):=fun m hm=>by
  have h1:p+m≤s.size:=by rw [hm,← hrm.1];omega
  rw [q1R s p (p+m) h1]
  congr 2
  rw [hrm.2,hm];unfold cut;rw [show p+rmk s.data.toList p-p=rmk s.data.toList p by omega]
 unfold q1F;have hlen:=hrm.1;rw [hlen] at hmle ⊢;have HLN:=hQz hlen;clear hrm hlen;generalize hkk:rmk s.data.toList p=k at *;have HX2:=hQz (HXT.out k rfl);clear HXT
 have HK0:Hid (k=0↔mkW s.data.toList p=[]):=by
  show _↔_;rw [← HLN.out];exact List.length_eq_zero_iff
 clear HLN;generalize mkW s.data.toList p=mk at *;by_cases hk0:k=0
 · have hmn:=HK0.out.1 hk0;rw [if_pos hmn];subst hk0;clear HX2 HK0 hmn hkk;go_enter Tryz.func16,Tryz.ntmps16;go_wp2_with fail;refine (HLe.out _).mono ?_;rintro e wq ⟨rfl,hwq⟩;obtain rfl:=hwq.symm;go_wp2_with fail;refine (HDg.out _).mono ?_;rintro e wq ⟨rfl,hwq⟩;obtain rfl:=hwq.symm;go_wp2_with fail;refine (HMk.out _).mono ?_;rintro e wq ⟨rfl,hwq⟩;obtain rfl:=hwq.symm;obtain ⟨W,hW⟩:∃ W,w.alloc q09=W:=⟨_,rfl⟩;have hX:=heap_alloc_new w q09;rw [hW] at hX;have HX:=hQz hX;have hb:=q0a w q09;rw [hW] at hb;have HB:=hQz hb;obtain ⟨kc0,kc1,kc2,kc3,kf0,kf1,kf2,kf3⟩:=q02 hX;unfold q09 at hW;(try rw [hW])
   clear hX hb;go_wp2_with fail;(try simp only [Exit.inBlock,Exit.then])
   generalize hz:((((W).setCell ⟨w.heap.size,0,none⟩ (.int .i64 0)).setCell ⟨w.heap.size,1,none⟩ (.int .i64 0)).setCell ⟨w.heap.size,2,none⟩ (.int .i64 0)).setCell ⟨w.heap.size,3,none⟩ (.string ⟨#[]⟩)=wz;obtain ⟨z1,z2,z3,z4⟩:=q0g _ _ _ _ _ _ _ _ _ _ _ HX.out wz hz.symm;obtain ⟨hd0,hd1,hd2,hd3,_⟩:=q02 z1;refine bodyPost_ret (v:= .tuple #[.agg #[.int .i64 0,.int .i64 0,.int .i64 0,.string ⟨#[]⟩],.int .i64 160]) (by simp [results,Tryz.results16,go_sem,hd0,hd1,hd2,hd3]) rfl ?_;exact ⟨.inr ⟨by simp,rfl,rfl⟩,HB.out.trans (z4 _ (Nat.le_refl _))⟩
 · have hmn:¬ mk=[]:=fun e=>hk0 (HK0.out.2 e);rw [if_neg hmn];have e0:((k:Int)==0)=false:=by rw [bqZ];omega
   have e1:¬ (k:Int)=0:=by omega
   have j1:(p:Int)≤(p:Int)+(k:Int):=by omega
   have j2:(p:Int)+(k:Int)≤(s.size:Int):=by omega
   clear HK0 hmn hkk hk0;go_enter Tryz.func16,Tryz.ntmps16;go_wp2_with fail;refine (HLe.out _).mono ?_;rintro e wq ⟨rfl,hwq⟩;obtain rfl:=hwq.symm;go_wp2_with fail;refine (HDg.out _).mono ?_;rintro e wq ⟨rfl,hwq⟩;obtain rfl:=hwq.symm;go_wp2_with fail;refine (HMk.out _).mono ?_;rintro e wq ⟨rfl,hwq⟩;obtain rfl:=hwq.symm;obtain ⟨W,hW⟩:∃ W,w.alloc q09=W:=⟨_,rfl⟩;have hX:=heap_alloc_new w q09;rw [hW] at hX;have HX:=hQz hX;have hb:=q0a w q09;rw [hW] at hb;have HB:=hQz hb;obtain ⟨kc0,kc1,kc2,kc3,kf0,kf1,kf2,kf3⟩:=q02 hX;unfold q09 at hW;(try rw [hW])
   clear hX hb;go_wp2_with fail;(try simp only [Exit.inBlock,Exit.then])
   generalize hz:((((W).setCell ⟨w.heap.size,0,none⟩ (.int .i64 10)).setCell ⟨w.heap.size,1,none⟩ (.int .i64 (p:Int))).setCell ⟨w.heap.size,2,none⟩ (.int .i64 ((p:Int)+(k:Int)))).setCell ⟨w.heap.size,3,none⟩ (.string (s.extract p (p+k)))=wz;obtain ⟨z1,z2,z3,z4⟩:=q0g _ _ _ _ _ _ _ _ _ _ _ HX.out wz hz.symm;obtain ⟨hd0,hd1,hd2,hd3,_⟩:=q02 z1;refine bodyPost_ret (v:= .tuple #[.agg #[.int .i64 10,.int .i64 (p:Int),.int .i64 ((p:Int)+(k:Int)),.string (s.extract p (p+k))],.int .i64 0]) (by simp [results,Tryz.results16,go_sem,hd0,hd1,hd2,hd3]) rfl ?_;refine ⟨.inl ⟨rfl,?_⟩,HB.out.trans (z4 _ (Nat.le_refl _))⟩;unfold tokV;dsimp only;rw [HX2.out]
   first|rfl|simp
theorem w_plD2 (s:ByteArray) (p:Nat) (w:World) (hp:p<s.size) (hs:s.size≤1073741824) (hle:leB s[p]=false) (hc:s[p].toNat=36) (h1:p+1<s.size) (hl1:leB s[p+1]=false):
 Calls Tryz.prog 16 #[.string s,.int .i64 (p:Int)] w fun e w'=>PlR (plT s.data.toList p) p w w' e:=by
 have HLe:=hQz (fun u=>q0G s[p] u);have HDg:=hQz (fun u=>q1w s[p] u);have hgd:=q0f hp;have hi0:(0:Int)≤(p:Int):=by omega
 have hi1:(p:Int)<(s.size:Int):=by omega
 obtain ⟨xi,hxi⟩:∃ xi:Int,((s[p].toNat:Nat):Int)=xi:=⟨_,rfl⟩;rw [hxi] at HLe HDg;have hlt:p<s.data.toList.length:=by rw [q08];exact hp
 unfold plT;rw [hgd];rw [if_neg (by rw [hle];decide)];rw [hle] at HLe;have hdg:dgB s[p]=false:=by unfold dgB;exact decide_eq_false (by omega)
 rw [hdg] at HDg
 have hnW:q0e s.data.toList (p+1)=[]:=by
  unfold q0e;rw [if_neg];rintro ⟨g1,g2⟩;rw [q08] at g1;rw [q0f h1,hl1] at g2
  cases g2
 have hi2:(p:Int)+1<(s.size:Int):=by omega
 have hi3:(0:Int)≤(p:Int)+1:=by omega
 have HL1:=hQz (fun u=>q0G s[p+1] u);rw [hl1] at HL1;have hv:varT s.data.toList p=⟨0,p,0,[],160⟩:=by unfold varT;rw [hnW];rfl
 have hmk0:mkW s.data.toList p=[]:=by
  have hb:=mkW_first hlt;rw [hgd] at hb;exact hb (by omega)
 rw [if_pos hc,hv];have hvm:(⟨0,p,0,[],160⟩:Tok)=q1F s.data.toList p:=by unfold q1F;rw [hmk0];rfl
 rw [hvm];clear hv hmk0 hvm;obtain rfl:36=xi:=by omega
 clear hnW;have HMk:=hQz (fun u=>w_rmark s p u hp (by omega));have hrm:=rmk_eq hlt;have hmle:=q2W s.data.toList p;rw [q08] at hmle
 have HXT:Hid (∀ m,m=rmk s.data.toList p→s.extract p (p+m)=⟨(mkW s.data.toList p).toArray⟩):=fun m hm=>by
  have h1:p+m≤s.size:=by rw [hm,← hrm.1];omega
  rw [q1R s p (p+m) h1]
  congr 2
  rw [hrm.2,hm];unfold cut;rw [show p+rmk s.data.toList p-p=rmk s.data.toList p by omega]
 unfold q1F;have hlen:=hrm.1;rw [hlen] at hmle ⊢;have HLN:=hQz hlen;clear hrm hlen;generalize hkk:rmk s.data.toList p=k at *;have HX2:=hQz (HXT.out k rfl);clear HXT
 have HK0:Hid (k=0↔mkW s.data.toList p=[]):=by
  show _↔_;rw [← HLN.out];exact List.length_eq_zero_iff
 clear HLN;generalize mkW s.data.toList p=mk at *;by_cases hk0:k=0
 · have hmn:=HK0.out.1 hk0;rw [if_pos hmn];subst hk0;clear HX2 HK0 hmn hkk;go_enter Tryz.func16,Tryz.ntmps16;go_wp2_with fail;refine (HLe.out _).mono ?_;rintro e wq ⟨rfl,hwq⟩;obtain rfl:=hwq.symm;go_wp2_with fail;refine (HL1.out _).mono ?_;rintro e wq ⟨rfl,hwq⟩;obtain rfl:=hwq.symm;go_wp2_with fail;refine (HDg.out _).mono ?_;rintro e wq ⟨rfl,hwq⟩;obtain rfl:=hwq.symm;go_wp2_with fail;refine (HMk.out _).mono ?_;rintro e wq ⟨rfl,hwq⟩;obtain rfl:=hwq.symm;obtain ⟨W,hW⟩:∃ W,w.alloc q09=W:=⟨_,rfl⟩;have hX:=heap_alloc_new w q09;rw [hW] at hX;have HX:=hQz hX;have hb:=q0a w q09;rw [hW] at hb;have HB:=hQz hb;obtain ⟨kc0,kc1,kc2,kc3,kf0,kf1,kf2,kf3⟩:=q02 hX;unfold q09 at hW;(try rw [hW])
   clear hX hb;go_wp2_with fail;(try simp only [Exit.inBlock,Exit.then])
   generalize hz:((((W).setCell ⟨w.heap.size,0,none⟩ (.int .i64 0)).setCell ⟨w.heap.size,1,none⟩ (.int .i64 0)).setCell ⟨w.heap.size,2,none⟩ (.int .i64 0)).setCell ⟨w.heap.size,3,none⟩ (.string ⟨#[]⟩)=wz;obtain ⟨z1,z2,z3,z4⟩:=q0g _ _ _ _ _ _ _ _ _ _ _ HX.out wz hz.symm;obtain ⟨hd0,hd1,hd2,hd3,_⟩:=q02 z1;refine bodyPost_ret (v:= .tuple #[.agg #[.int .i64 0,.int .i64 0,.int .i64 0,.string ⟨#[]⟩],.int .i64 160]) (by simp [results,Tryz.results16,go_sem,hd0,hd1,hd2,hd3]) rfl ?_;exact ⟨.inr ⟨by simp,rfl,rfl⟩,HB.out.trans (z4 _ (Nat.le_refl _))⟩
 · have hmn:¬ mk=[]:=fun e=>hk0 (HK0.out.2 e);rw [if_neg hmn];have e0:((k:Int)==0)=false:=by rw [bqZ];omega
   have e1:¬ (k:Int)=0:=by omega
   have j1:(p:Int)≤(p:Int)+(k:Int):=by omega
   have j2:(p:Int)+(k:Int)≤(s.size:Int):=by omega
   clear HK0 hmn hkk hk0;go_enter Tryz.func16,Tryz.ntmps16;go_wp2_with fail;refine (HLe.out _).mono ?_;rintro e wq ⟨rfl,hwq⟩;obtain rfl:=hwq.symm;go_wp2_with fail;refine (HL1.out _).mono ?_;rintro e wq ⟨rfl,hwq⟩;obtain rfl:=hwq.symm;go_wp2_with fail;refine (HDg.out _).mono ?_;rintro e wq ⟨rfl,hwq⟩;obtain rfl:=hwq.symm;go_wp2_with fail;refine (HMk.out _).mono ?_;rintro e wq ⟨rfl,hwq⟩;obtain rfl:=hwq.symm;obtain ⟨W,hW⟩:∃ W,w.alloc q09=W:=⟨_,rfl⟩;have hX:=heap_alloc_new w q09;rw [hW] at hX;have HX:=hQz hX;have hb:=q0a w q09;rw [hW] at hb;have HB:=hQz hb;obtain ⟨kc0,kc1,kc2,kc3,kf0,kf1,kf2,kf3⟩:=q02 hX;unfold q09 at hW;(try rw [hW])
   clear hX hb;go_wp2_with fail;(try simp only [Exit.inBlock,Exit.then])
   generalize hz:((((W).setCell ⟨w.heap.size,0,none⟩ (.int .i64 10)).setCell ⟨w.heap.size,1,none⟩ (.int .i64 (p:Int))).setCell ⟨w.heap.size,2,none⟩ (.int .i64 ((p:Int)+(k:Int)))).setCell ⟨w.heap.size,3,none⟩ (.string (s.extract p (p+k)))=wz;obtain ⟨z1,z2,z3,z4⟩:=q0g _ _ _ _ _ _ _ _ _ _ _ HX.out wz hz.symm;obtain ⟨hd0,hd1,hd2,hd3,_⟩:=q02 z1;refine bodyPost_ret (v:= .tuple #[.agg #[.int .i64 10,.int .i64 (p:Int),.int .i64 ((p:Int)+(k:Int)),.string (s.extract p (p+k))],.int .i64 0]) (by simp [results,Tryz.results16,go_sem,hd0,hd1,hd2,hd3]) rfl ?_;refine ⟨.inl ⟨rfl,?_⟩,HB.out.trans (z4 _ (Nat.le_refl _))⟩;unfold tokV;dsimp only;rw [HX2.out]
   first|rfl|simp
theorem w_plD3 (s:ByteArray) (p:Nat) (w:World) (hp:p<s.size) (hs:s.size≤1073741824) (hle:leB s[p]=false) (hc:s[p].toNat=46) (h1:¬ p+1<s.size):
 Calls Tryz.prog 16 #[.string s,.int .i64 (p:Int)] w fun e w'=>PlR (plT s.data.toList p) p w w' e:=by
 have HLe:=hQz (fun u=>q0G s[p] u);have HDg:=hQz (fun u=>q1w s[p] u);have hgd:=q0f hp;have hi0:(0:Int)≤(p:Int):=by omega
 have hi1:(p:Int)<(s.size:Int):=by omega
 obtain ⟨xi,hxi⟩:∃ xi:Int,((s[p].toNat:Nat):Int)=xi:=⟨_,rfl⟩;rw [hxi] at HLe HDg;have hlt:p<s.data.toList.length:=by rw [q08];exact hp
 unfold plT;rw [hgd];rw [if_neg (by rw [hle];decide)];rw [hle] at HLe;have hdg:dgB s[p]=false:=by unfold dgB;exact decide_eq_false (by omega)
 rw [hdg] at HDg
 have hnW:q0e s.data.toList (p+1)=[]:=by
  unfold q0e;rw [if_neg];rintro ⟨g1,g2⟩;rw [q08] at g1;exact h1 g1
 have hi2:¬ (p:Int)+1<(s.size:Int):=by omega
 rw [if_neg (by omega),if_neg (fun h=>h.2 hnW),if_neg (by rw [hdg];decide)];obtain rfl:46=xi:=by omega
 clear hnW;have HMk:=hQz (fun u=>w_rmark s p u hp (by omega));have hrm:=rmk_eq hlt;have hmle:=q2W s.data.toList p;rw [q08] at hmle
 have HXT:Hid (∀ m,m=rmk s.data.toList p→s.extract p (p+m)=⟨(mkW s.data.toList p).toArray⟩):=fun m hm=>by
  have h1:p+m≤s.size:=by rw [hm,← hrm.1];omega
  rw [q1R s p (p+m) h1]
  congr 2
  rw [hrm.2,hm];unfold cut;rw [show p+rmk s.data.toList p-p=rmk s.data.toList p by omega]
 unfold q1F;have hlen:=hrm.1;rw [hlen] at hmle ⊢;have HLN:=hQz hlen;clear hrm hlen;generalize hkk:rmk s.data.toList p=k at *;have HX2:=hQz (HXT.out k rfl);clear HXT
 have HK0:Hid (k=0↔mkW s.data.toList p=[]):=by
  show _↔_;rw [← HLN.out];exact List.length_eq_zero_iff
 clear HLN;generalize mkW s.data.toList p=mk at *;by_cases hk0:k=0
 · have hmn:=HK0.out.1 hk0;rw [if_pos hmn];subst hk0;clear HX2 HK0 hmn hkk;go_enter Tryz.func16,Tryz.ntmps16;go_wp2_with fail;refine (HLe.out _).mono ?_;rintro e wq ⟨rfl,hwq⟩;obtain rfl:=hwq.symm;go_wp2_with fail;refine (HDg.out _).mono ?_;rintro e wq ⟨rfl,hwq⟩;obtain rfl:=hwq.symm;go_wp2_with fail;refine (HMk.out _).mono ?_;rintro e wq ⟨rfl,hwq⟩;obtain rfl:=hwq.symm;obtain ⟨W,hW⟩:∃ W,w.alloc q09=W:=⟨_,rfl⟩;have hX:=heap_alloc_new w q09;rw [hW] at hX;have HX:=hQz hX;have hb:=q0a w q09;rw [hW] at hb;have HB:=hQz hb;obtain ⟨kc0,kc1,kc2,kc3,kf0,kf1,kf2,kf3⟩:=q02 hX;unfold q09 at hW;(try rw [hW])
   clear hX hb;go_wp2_with fail;(try simp only [Exit.inBlock,Exit.then])
   generalize hz:((((W).setCell ⟨w.heap.size,0,none⟩ (.int .i64 0)).setCell ⟨w.heap.size,1,none⟩ (.int .i64 0)).setCell ⟨w.heap.size,2,none⟩ (.int .i64 0)).setCell ⟨w.heap.size,3,none⟩ (.string ⟨#[]⟩)=wz;obtain ⟨z1,z2,z3,z4⟩:=q0g _ _ _ _ _ _ _ _ _ _ _ HX.out wz hz.symm;obtain ⟨hd0,hd1,hd2,hd3,_⟩:=q02 z1;refine bodyPost_ret (v:= .tuple #[.agg #[.int .i64 0,.int .i64 0,.int .i64 0,.string ⟨#[]⟩],.int .i64 160]) (by simp [results,Tryz.results16,go_sem,hd0,hd1,hd2,hd3]) rfl ?_;exact ⟨.inr ⟨by simp,rfl,rfl⟩,HB.out.trans (z4 _ (Nat.le_refl _))⟩
 · have hmn:¬ mk=[]:=fun e=>hk0 (HK0.out.2 e);rw [if_neg hmn];have e0:((k:Int)==0)=false:=by rw [bqZ];omega
   have e1:¬ (k:Int)=0:=by omega
   have j1:(p:Int)≤(p:Int)+(k:Int):=by omega
   have j2:(p:Int)+(k:Int)≤(s.size:Int):=by omega
   clear HK0 hmn hkk hk0;go_enter Tryz.func16,Tryz.ntmps16;go_wp2_with fail;refine (HLe.out _).mono ?_;rintro e wq ⟨rfl,hwq⟩;obtain rfl:=hwq.symm;go_wp2_with fail;refine (HDg.out _).mono ?_;rintro e wq ⟨rfl,hwq⟩;obtain rfl:=hwq.symm;go_wp2_with fail;refine (HMk.out _).mono ?_;rintro e wq ⟨rfl,hwq⟩;obtain rfl:=hwq.symm;obtain ⟨W,hW⟩:∃ W,w.alloc q09=W:=⟨_,rfl⟩;have hX:=heap_alloc_new w q09;rw [hW] at hX;have HX:=hQz hX;have hb:=q0a w q09;rw [hW] at hb;have HB:=hQz hb;obtain ⟨kc0,kc1,kc2,kc3,kf0,kf1,kf2,kf3⟩:=q02 hX;unfold q09 at hW;(try rw [hW])
   clear hX hb;go_wp2_with fail;(try simp only [Exit.inBlock,Exit.then])
   generalize hz:((((W).setCell ⟨w.heap.size,0,none⟩ (.int .i64 10)).setCell ⟨w.heap.size,1,none⟩ (.int .i64 (p:Int))).setCell ⟨w.heap.size,2,none⟩ (.int .i64 ((p:Int)+(k:Int)))).setCell ⟨w.heap.size,3,none⟩ (.string (s.extract p (p+k)))=wz;obtain ⟨z1,z2,z3,z4⟩:=q0g _ _ _ _ _ _ _ _ _ _ _ HX.out wz hz.symm;obtain ⟨hd0,hd1,hd2,hd3,_⟩:=q02 z1;refine bodyPost_ret (v:= .tuple #[.agg #[.int .i64 10,.int .i64 (p:Int),.int .i64 ((p:Int)+(k:Int)),.string (s.extract p (p+k))],.int .i64 0]) (by simp [results,Tryz.results16,go_sem,hd0,hd1,hd2,hd3]) rfl ?_;refine ⟨.inl ⟨rfl,?_⟩,HB.out.trans (z4 _ (Nat.le_refl _))⟩;unfold tokV;dsimp only;rw [HX2.out]
   first|rfl|simp
theorem w_plD4 (s:ByteArray) (p:Nat) (w:World) (hp:p<s.size) (hs:s.size≤1073741824) (hle:leB s[p]=false) (hc:s[p].toNat=46) (h1:p+1<s.size) (hl1:leB s[p+1]=false):
 Calls Tryz.prog 16 #[.string s,.int .i64 (p:Int)] w fun e w'=>PlR (plT s.data.toList p) p w w' e:=by
 have HLe:=hQz (fun u=>q0G s[p] u);have HDg:=hQz (fun u=>q1w s[p] u);have hgd:=q0f hp;have hi0:(0:Int)≤(p:Int):=by omega
 have hi1:(p:Int)<(s.size:Int):=by omega
 obtain ⟨xi,hxi⟩:∃ xi:Int,((s[p].toNat:Nat):Int)=xi:=⟨_,rfl⟩;rw [hxi] at HLe HDg;have hlt:p<s.data.toList.length:=by rw [q08];exact hp
 unfold plT;rw [hgd];rw [if_neg (by rw [hle];decide)];rw [hle] at HLe;have hdg:dgB s[p]=false:=by unfold dgB;exact decide_eq_false (by omega)
 rw [hdg] at HDg
 have hnW:q0e s.data.toList (p+1)=[]:=by
  unfold q0e;rw [if_neg];rintro ⟨g1,g2⟩;rw [q08] at g1;rw [q0f h1,hl1] at g2
  cases g2
 have hi2:(p:Int)+1<(s.size:Int):=by omega
 have hi3:(0:Int)≤(p:Int)+1:=by omega
 have HL1:=hQz (fun u=>q0G s[p+1] u);rw [hl1] at HL1;rw [if_neg (by omega),if_neg (fun h=>h.2 hnW),if_neg (by rw [hdg];decide)];obtain rfl:46=xi:=by omega
 clear hnW;have HMk:=hQz (fun u=>w_rmark s p u hp (by omega));have hrm:=rmk_eq hlt;have hmle:=q2W s.data.toList p;rw [q08] at hmle
 have HXT:Hid (∀ m,m=rmk s.data.toList p→s.extract p (p+m)=⟨(mkW s.data.toList p).toArray⟩):=fun m hm=>by
  have h1:p+m≤s.size:=by rw [hm,← hrm.1];omega
  rw [q1R s p (p+m) h1]
  congr 2
  rw [hrm.2,hm];unfold cut;rw [show p+rmk s.data.toList p-p=rmk s.data.toList p by omega]
 unfold q1F;have hlen:=hrm.1;rw [hlen] at hmle ⊢;have HLN:=hQz hlen;clear hrm hlen;generalize hkk:rmk s.data.toList p=k at *;have HX2:=hQz (HXT.out k rfl);clear HXT
 have HK0:Hid (k=0↔mkW s.data.toList p=[]):=by
  show _↔_;rw [← HLN.out];exact List.length_eq_zero_iff
 clear HLN;generalize mkW s.data.toList p=mk at *;by_cases hk0:k=0
 · have hmn:=HK0.out.1 hk0;rw [if_pos hmn];subst hk0;clear HX2 HK0 hmn hkk;go_enter Tryz.func16,Tryz.ntmps16;go_wp2_with fail;refine (HLe.out _).mono ?_;rintro e wq ⟨rfl,hwq⟩;obtain rfl:=hwq.symm;go_wp2_with fail;refine (HL1.out _).mono ?_;rintro e wq ⟨rfl,hwq⟩;obtain rfl:=hwq.symm;go_wp2_with fail;refine (HDg.out _).mono ?_;rintro e wq ⟨rfl,hwq⟩;obtain rfl:=hwq.symm;go_wp2_with fail;refine (HMk.out _).mono ?_;rintro e wq ⟨rfl,hwq⟩;obtain rfl:=hwq.symm;obtain ⟨W,hW⟩:∃ W,w.alloc q09=W:=⟨_,rfl⟩;have hX:=heap_alloc_new w q09;rw [hW] at hX;have HX:=hQz hX;have hb:=q0a w q09;rw [hW] at hb;have HB:=hQz hb;obtain ⟨kc0,kc1,kc2,kc3,kf0,kf1,kf2,kf3⟩:=q02 hX;unfold q09 at hW;(try rw [hW])
   clear hX hb;go_wp2_with fail;(try simp only [Exit.inBlock,Exit.then])
   generalize hz:((((W).setCell ⟨w.heap.size,0,none⟩ (.int .i64 0)).setCell ⟨w.heap.size,1,none⟩ (.int .i64 0)).setCell ⟨w.heap.size,2,none⟩ (.int .i64 0)).setCell ⟨w.heap.size,3,none⟩ (.string ⟨#[]⟩)=wz;obtain ⟨z1,z2,z3,z4⟩:=q0g _ _ _ _ _ _ _ _ _ _ _ HX.out wz hz.symm;obtain ⟨hd0,hd1,hd2,hd3,_⟩:=q02 z1;refine bodyPost_ret (v:= .tuple #[.agg #[.int .i64 0,.int .i64 0,.int .i64 0,.string ⟨#[]⟩],.int .i64 160]) (by simp [results,Tryz.results16,go_sem,hd0,hd1,hd2,hd3]) rfl ?_;exact ⟨.inr ⟨by simp,rfl,rfl⟩,HB.out.trans (z4 _ (Nat.le_refl _))⟩
 · have hmn:¬ mk=[]:=fun e=>hk0 (HK0.out.2 e);rw [if_neg hmn];have e0:((k:Int)==0)=false:=by rw [bqZ];omega
   have e1:¬ (k:Int)=0:=by omega
   have j1:(p:Int)≤(p:Int)+(k:Int):=by omega
   have j2:(p:Int)+(k:Int)≤(s.size:Int):=by omega
   clear HK0 hmn hkk hk0;go_enter Tryz.func16,Tryz.ntmps16;go_wp2_with fail;refine (HLe.out _).mono ?_;rintro e wq ⟨rfl,hwq⟩;obtain rfl:=hwq.symm;go_wp2_with fail;refine (HL1.out _).mono ?_;rintro e wq ⟨rfl,hwq⟩;obtain rfl:=hwq.symm;go_wp2_with fail;refine (HDg.out _).mono ?_;rintro e wq ⟨rfl,hwq⟩;obtain rfl:=hwq.symm;go_wp2_with fail;refine (HMk.out _).mono ?_;rintro e wq ⟨rfl,hwq⟩;obtain rfl:=hwq.symm;obtain ⟨W,hW⟩:∃ W,w.alloc q09=W:=⟨_,rfl⟩;have hX:=heap_alloc_new w q09;rw [hW] at hX;have HX:=hQz hX;have hb:=q0a w q09;rw [hW] at hb;have HB:=hQz hb;obtain ⟨kc0,kc1,kc2,kc3,kf0,kf1,kf2,kf3⟩:=q02 hX;unfold q09 at hW;(try rw [hW])
   clear hX hb;go_wp2_with fail;(try simp only [Exit.inBlock,Exit.then])
   generalize hz:((((W).setCell ⟨w.heap.size,0,none⟩ (.int .i64 10)).setCell ⟨w.heap.size,1,none⟩ (.int .i64 (p:Int))).setCell ⟨w.heap.size,2,none⟩ (.int .i64 ((p:Int)+(k:Int)))).setCell ⟨w.heap.size,3,none⟩ (.string (s.extract p (p+k)))=wz;obtain ⟨z1,z2,z3,z4⟩:=q0g _ _ _ _ _ _ _ _ _ _ _ HX.out wz hz.symm;obtain ⟨hd0,hd1,hd2,hd3,_⟩:=q02 z1;refine bodyPost_ret (v:= .tuple #[.agg #[.int .i64 10,.int .i64 (p:Int),.int .i64 ((p:Int)+(k:Int)),.string (s.extract p (p+k))],.int .i64 0]) (by simp [results,Tryz.results16,go_sem,hd0,hd1,hd2,hd3]) rfl ?_;refine ⟨.inl ⟨rfl,?_⟩,HB.out.trans (z4 _ (Nat.le_refl _))⟩;unfold tokV;dsimp only;rw [HX2.out]
   first|rfl|simp
theorem w_plI (s:ByteArray) (p:Nat) (w:World) (hp:p<s.size) (hs:s.size≤1073741824) (hle:leB s[p]=false) (h36:¬ s[p].toNat=36) (h46:¬ s[p].toNat=46) (hdg:dgB s[p]=false):
 Calls Tryz.prog 16 #[.string s,.int .i64 (p:Int)] w fun e w'=>PlR (plT s.data.toList p) p w w' e:=by
 have HLe:=hQz (fun u=>q0G s[p] u);have HDg:=hQz (fun u=>q1w s[p] u);have hgd:=q0f hp;have hi0:(0:Int)≤(p:Int):=by omega
 have hi1:(p:Int)<(s.size:Int):=by omega
 obtain ⟨xi,hxi⟩:∃ xi:Int,((s[p].toNat:Nat):Int)=xi:=⟨_,rfl⟩;rw [hxi] at HLe HDg;have hlt:p<s.data.toList.length:=by rw [q08];exact hp
 unfold plT;rw [hgd];rw [if_neg (by rw [hle];decide)];rw [hle] at HLe;rw [if_neg h36,if_neg (fun h=>h46 h.1)];have i36:¬ xi=36:=by omega
 have i46:¬ xi=46:=by omega
 rw [if_neg (by rw [hdg];decide)];rw [hdg] at HDg;have HMk:=hQz (fun u=>w_rmark s p u hp (by omega));have hrm:=rmk_eq hlt;have hmle:=q2W s.data.toList p;rw [q08] at hmle
 have HXT:Hid (∀ m,m=rmk s.data.toList p→s.extract p (p+m)=⟨(mkW s.data.toList p).toArray⟩):=fun m hm=>by
  have h1:p+m≤s.size:=by rw [hm,← hrm.1];omega
  rw [q1R s p (p+m) h1]
  congr 2
  rw [hrm.2,hm];unfold cut;rw [show p+rmk s.data.toList p-p=rmk s.data.toList p by omega]
 unfold q1F;have hlen:=hrm.1;rw [hlen] at hmle ⊢;have HLN:=hQz hlen;clear hrm hlen;generalize hkk:rmk s.data.toList p=k at *;have HX2:=hQz (HXT.out k rfl);clear HXT
 have HK0:Hid (k=0↔mkW s.data.toList p=[]):=by
  show _↔_;rw [← HLN.out];exact List.length_eq_zero_iff
 clear HLN;generalize mkW s.data.toList p=mk at *;by_cases hk0:k=0
 · have hmn:=HK0.out.1 hk0;rw [if_pos hmn];subst hk0;clear HX2 HK0 hmn hkk;go_enter Tryz.func16,Tryz.ntmps16;go_wp2_with fail;refine (HLe.out _).mono ?_;rintro e wq ⟨rfl,hwq⟩;obtain rfl:=hwq.symm;go_wp2_with fail;refine (HDg.out _).mono ?_;rintro e wq ⟨rfl,hwq⟩;obtain rfl:=hwq.symm;go_wp2_with fail;refine (HMk.out _).mono ?_;rintro e wq ⟨rfl,hwq⟩;obtain rfl:=hwq.symm;obtain ⟨W,hW⟩:∃ W,w.alloc q09=W:=⟨_,rfl⟩;have hX:=heap_alloc_new w q09;rw [hW] at hX;have HX:=hQz hX;have hb:=q0a w q09;rw [hW] at hb;have HB:=hQz hb;obtain ⟨kc0,kc1,kc2,kc3,kf0,kf1,kf2,kf3⟩:=q02 hX;unfold q09 at hW;(try rw [hW])
   clear hX hb;go_wp2_with fail;(try simp only [Exit.inBlock,Exit.then])
   generalize hz:((((W).setCell ⟨w.heap.size,0,none⟩ (.int .i64 0)).setCell ⟨w.heap.size,1,none⟩ (.int .i64 0)).setCell ⟨w.heap.size,2,none⟩ (.int .i64 0)).setCell ⟨w.heap.size,3,none⟩ (.string ⟨#[]⟩)=wz;obtain ⟨z1,z2,z3,z4⟩:=q0g _ _ _ _ _ _ _ _ _ _ _ HX.out wz hz.symm;obtain ⟨hd0,hd1,hd2,hd3,_⟩:=q02 z1;refine bodyPost_ret (v:= .tuple #[.agg #[.int .i64 0,.int .i64 0,.int .i64 0,.string ⟨#[]⟩],.int .i64 160]) (by simp [results,Tryz.results16,go_sem,hd0,hd1,hd2,hd3]) rfl ?_;exact ⟨.inr ⟨by simp,rfl,rfl⟩,HB.out.trans (z4 _ (Nat.le_refl _))⟩
 · have hmn:¬ mk=[]:=fun e=>hk0 (HK0.out.2 e);rw [if_neg hmn];have e0:((k:Int)==0)=false:=by rw [bqZ];omega
   have e1:¬ (k:Int)=0:=by omega
   have j1:(p:Int)≤(p:Int)+(k:Int):=by omega
   have j2:(p:Int)+(k:Int)≤(s.size:Int):=by omega
   clear HK0 hmn hkk hk0;go_enter Tryz.func16,Tryz.ntmps16;go_wp2_with fail;refine (HLe.out _).mono ?_;rintro e wq ⟨rfl,hwq⟩;obtain rfl:=hwq.symm;go_wp2_with fail;refine (HDg.out _).mono ?_;rintro e wq ⟨rfl,hwq⟩;obtain rfl:=hwq.symm;go_wp2_with fail;refine (HMk.out _).mono ?_;rintro e wq ⟨rfl,hwq⟩;obtain rfl:=hwq.symm;obtain ⟨W,hW⟩:∃ W,w.alloc q09=W:=⟨_,rfl⟩;have hX:=heap_alloc_new w q09;rw [hW] at hX;have HX:=hQz hX;have hb:=q0a w q09;rw [hW] at hb;have HB:=hQz hb;obtain ⟨kc0,kc1,kc2,kc3,kf0,kf1,kf2,kf3⟩:=q02 hX;unfold q09 at hW;(try rw [hW])
   clear hX hb;go_wp2_with fail;(try simp only [Exit.inBlock,Exit.then])
   generalize hz:((((W).setCell ⟨w.heap.size,0,none⟩ (.int .i64 10)).setCell ⟨w.heap.size,1,none⟩ (.int .i64 (p:Int))).setCell ⟨w.heap.size,2,none⟩ (.int .i64 ((p:Int)+(k:Int)))).setCell ⟨w.heap.size,3,none⟩ (.string (s.extract p (p+k)))=wz;obtain ⟨z1,z2,z3,z4⟩:=q0g _ _ _ _ _ _ _ _ _ _ _ HX.out wz hz.symm;obtain ⟨hd0,hd1,hd2,hd3,_⟩:=q02 z1;refine bodyPost_ret (v:= .tuple #[.agg #[.int .i64 10,.int .i64 (p:Int),.int .i64 ((p:Int)+(k:Int)),.string (s.extract p (p+k))],.int .i64 0]) (by simp [results,Tryz.results16,go_sem,hd0,hd1,hd2,hd3]) rfl ?_;refine ⟨.inl ⟨rfl,?_⟩,HB.out.trans (z4 _ (Nat.le_refl _))⟩;unfold tokV;dsimp only;rw [HX2.out]
   first|rfl|simp
theorem w_rplain (s:ByteArray) (p:Nat) (w:World) (hp:p<s.size) (hs:s.size≤1073741824):
 Calls Tryz.prog 16 #[.string s,.int .i64 (p:Int)] w fun e w'=>PlR (plT s.data.toList p) p w w' e:=by
 cases hle:leB s[p] with
 | true=>exact w_plA s p w hp hs hle
 | false=>
  by_cases h36:s[p].toNat=36
  · by_cases h1:p+1<s.size
    · cases hl1:leB s[p+1] with
      | true=>exact w_plB s p w hp hs hle h36 h1 hl1
      | false=>exact w_plD2 s p w hp hs hle h36 h1 hl1
    · exact w_plD1 s p w hp hs hle h36 h1
  by_cases h46:s[p].toNat=46
  · by_cases h1:p+1<s.size
    · cases hl1:leB s[p+1] with
      | true=>exact w_plC s p w hp hs hle h46 h1 hl1
      | false=>exact w_plD4 s p w hp hs hle h46 h1 hl1
    · exact w_plD3 s p w hp hs hle h46 h1
  cases hdg:dgB s[p] with
  | true=>exact w_plE s p w hp hs hle h36 h46 hdg
  | false=>exact w_plI s p w hp hs hle h36 h46 hdg
end Go.Proofs.YtbpopnafcpfifaaGreatDoor
