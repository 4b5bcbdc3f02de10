import Derived.Test.YtnokkmiaeacogaaGreatM31
import Derived.Test.YtnokkmiaeacogaaGreatM1
import Derived.Deep.Cut
import Derived.Lib.QuietBelow
import Derived.BigQuiet
import Derived.Deep.RegionHeld3
set_option linter.unusedVariables false
set_option linter.unusedSimpArgs false
namespace Go.Proofs.YtnokkmiaeacogaaGreat
open Go.RowKit Go.Shelf Go.Sort
attribute [local go_sem] Oper.semAt_some
set_option maxRecDepth 100000
set_option maxHeartbeats 12800000
theorem w_LessS (a b:ByteArray) (w:World):Calls Tryz.prog 163 #[.string a,.string b] w fun e w'=>e= .returned (.bool (Op.bytesLess a.toList b.toList))∧w'=w:=by
 obtain ⟨r,hr⟩:∃ r,Op.bytesLess a.toList b.toList=r:=⟨_,rfl⟩;rw [hr]
 cases r with
 | true=>
  go_enter Tryz.func163,Tryz.ntmps163
  go_wp2
  all_goals (go_ret;exact ⟨rfl,rfl⟩)
 | false=>
  go_enter Tryz.func163,Tryz.ntmps163
  go_wp2
  all_goals (go_ret;exact ⟨rfl,rfl⟩)
theorem w_isNaNS (a:ByteArray) (w:World):Calls Tryz.prog 164 #[.string a] w fun e w'=>e= .returned (.bool false)∧w'=w:=by
 go_enter Tryz.func164,Tryz.ntmps164
 go_wp2
 all_goals (go_ret;exact ⟨by first|rfl|simp,rfl⟩)
theorem search_at {ks:List ByteArray} (hr:rK ks ks.length=true) (s:ByteArray):∃ m,m≤ks.length∧(∀ k,(hk:k<ks.length)→k<m→Op.bytesLess ks[k].toList s.toList=true)∧(∀ k,(hk:k<ks.length)→m≤k→Op.bytesLess ks[k].toList s.toList=false)∧hasK ks s=match ks[m]? with|some x=>x.toList==s.toList|none=>false:=by
 obtain ⟨m,hm⟩:∃ m,ks.findIdx (fun x=> !Op.bytesLess x.toList s.toList)=m:=⟨_,rfl⟩;have h0:m≤ks.length:=by rw [← hm];exact List.findIdx_le_length
 have h1:∀ k,(hk:k<ks.length)→k<m→Op.bytesLess ks[k].toList s.toList=true:=fun k hk hkm=>by
  have:=List.not_of_lt_findIdx (xs:=ks) (p:=fun x=> !Op.bytesLess x.toList s.toList) (i:=k) (by rw [hm];exact hkm);simpa using this
 have h2:∀ k,(hk:k<ks.length)→m≤k→Op.bytesLess ks[k].toList s.toList=false:=fun k hk hkm=>by
  have hml:m<ks.length:=by omega
  have hm2:Op.bytesLess ks[m].toList s.toList=false:=by
   have:=List.findIdx_getElem (xs:=ks) (p:=fun x=> !Op.bytesLess x.toList s.toList) (w:=by rw [hm];exact hml);simp only [hm] at this;simpa using this
  by_cases e:m=k
  · subst e;exact hm2
  · have h3:=rise_ltB hr k hk m (by omega)
    cases e2:Op.bytesLess ks[k].toList s.toList with
    | false=>rfl
    | true=>
     rw [q0Q,decide_eq_true_eq] at e2;rw [q0Q,decide_eq_false_iff_not] at hm2;exact absurd (List.lt_trans h3 e2) hm2
 refine ⟨m,h0,h1,h2,?_⟩;by_cases hml:m<ks.length
 · rw [List.getElem?_eq_getElem hml];show hasK ks s=(ks[m].toList==s.toList);rw [Bool.eq_iff_iff];constructor
   · intro h;obtain ⟨x,hx,e⟩:=List.any_eq_true.1 h;obtain ⟨k,hk,rfl⟩:=List.getElem_of_mem hx;have e':ks[k]=s:=(q0o _ _).1 e
     have k1:¬ k<m:=fun hkm=>by
      have:=h1 k hk hkm;rw [e',q0Q,decide_eq_true_eq] at this;exact List.lt_irrefl _ this
     by_cases k2:m=k
     · subst k2;exact e
     · have h3:=rise_ltB hr k hk m (by omega);have h4:=h2 m hml (Nat.le_refl _);rw [q0Q,decide_eq_false_iff_not,← e'] at h4;exact absurd h3 h4
   · intro h;exact List.any_eq_true.2 ⟨_,List.getElem_mem hml,h⟩
 · rw [List.getElem?_eq_none (by omega)];show hasK ks s=false
   cases e:hasK ks s with
   | false=>rfl
   | true=>
    obtain ⟨x,hx,e⟩:=List.any_eq_true.1 e;obtain ⟨k,hk,rfl⟩:=List.getElem_of_mem hx;have e':ks[k]=s:=(q0o _ _).1 e;have:=h1 k hk (by omega);rw [e',q0Q,decide_eq_true_eq] at this;exact absurd this (List.lt_irrefl _)
theorem bin_at {ks:List ByteArray} {s:ByteArray} {m:Nat} (hf:hasK ks s=match ks[m]? with|some x=>x.toList==s.toList|none=>false):hasK ks s=true→∃ hm:m<ks.length,ks[m]=s:=by
 intro h;rw [hf] at h;by_cases hm:m<ks.length
 · rw [List.getElem?_eq_getElem hm] at h;refine ⟨hm,(q0o _ _).1 ?_⟩;exact h
 · rw [List.getElem?_eq_none (by omega)] at h
   cases h
theorem w_BinX (ks:List ByteArray) (s:ByteArray) (hr:rK ks ks.length=true):∃ m:Nat,(hasK ks s=true→∃ hm:m<ks.length,ks[m]=s)∧∀ (ko:Option Addr) (N kc:Nat) (w:World),KIn w ko ks→ks.length=N→N≤kc→N≤140737488355328→
 Calls Tryz.prog 150 #[.slice ko N kc,.string s] w fun e w'=>e= .returned (.tuple #[.int .i64 (m:Int),.bool (hasK ks s)])∧w'=w:=by
 obtain ⟨m,hm,h1,h2,hf⟩:=search_at hr s;refine ⟨m,bin_at hf,fun ko N kc w hk hN hc hN2=> ?_⟩;have HI:=hQz hk;have HNN:=hQz hN;have H1:=hQz h1;have H2:=hQz h2;have HF:=hQz hf;generalize hasK ks s=R at HF ⊢;rw [hN] at hm;clear hk hN h1 h2 hf hr;go_enter Tryz.func150,Tryz.ntmps150;go_wp2_with fail
 go_loopw [7,8] (fun i j wr=>∃ p q:Nat,p≤m∧m≤q∧q≤N∧i= .int .i64 (p:Int)∧j= .int .i64 (q:Int)∧Hid (wr=w)) (fun i j _=>(intOf j).toNat-(intOf i).toNat)
 case atStart=>exact ⟨0,N,Nat.zero_le _,hm,Nat.le_refl _,rfl,rfl,rfl⟩
 case round=>
  obtain ⟨p,q,hp,hq,hqN,rfl,rfl,HW⟩:=hrel;obtain rfl:=HW.out;by_cases hlt:p<q
  · have hl1:(p:Int)<(q:Int):=by omega
    go_upto_region 5 with fail;obtain ⟨k,hk⟩:∃ k:Nat,((p:Int)+(q:Int)) / 2=(k:Int):=⟨((p:Int)+(q:Int)).toNat / 2,by omega⟩;have hkq:k<q:=by omega
    have hpk:p≤k:=by omega
    rw [hk];clear hk;have hkl:k<ks.length:=by rw [HNN.out];omega
    obtain ⟨b,off,hko,hbl,hrow⟩:=HI.out.row (by omega);subst hko;have c0:=hrow k hkl;rw [List.getD_eq_getElem?_getD,List.getElem?_eq_getElem hkl,Option.getD_some] at c0;have hi1:(k:Int)<(N:Int):=by omega
    have hi4:(0:Int)≤(k:Int):=by omega
    have HC:=hQz (w_LessS ks[k] s wr);clear hrow;by_cases hkm:k<m
    · rw [H1.out k hkl hkm] at HC;generalize ks[k]=x at c0 HC;clear hkl;go_wp2_with fail;refine HC.out.mono ?_;rintro e w2 ⟨rfl,rfl⟩;go_wp2_with fail;go_roundw
      case rel=>exact ⟨k+1,q,hkm,hq,hqN,by go_num,rfl,(by first|trivial|exact rfl)⟩
      case measure=>simp [intOf];omega
    · rw [H2.out k hkl (by omega)] at HC;generalize ks[k]=x at c0 HC;clear hkl;go_wp2_with fail;refine HC.out.mono ?_;rintro e w2 ⟨rfl,rfl⟩;go_wp2_with fail;go_roundw
      case rel=>exact ⟨p,k,hp,by omega,by omega,rfl,by go_num,(by first|trivial|exact rfl)⟩
      case measure=>simp [intOf];omega
  · have hl1:¬ (p:Int)<(q:Int):=by omega
    obtain rfl:p=m:=by omega
    by_cases hpN:p<N
    · have hp1:(p:Int)<(N:Int):=by omega
      have hp4:(0:Int)≤(p:Int):=by omega
      have hpl:p<ks.length:=by rw [HNN.out];exact hpN
      obtain ⟨b,off,hko,hbl,hrow⟩:=HI.out.row (by omega);subst hko;have c0:=hrow p hpl;rw [List.getD_eq_getElem?_getD,List.getElem?_eq_getElem hpl,Option.getD_some] at c0;have hR:R=(ks[p].toList==s.toList):=by rw [HF.out,List.getElem?_eq_getElem hpl]
      have HC:=hQz (fun u=>w_isNaNS ks[p] u);generalize ks[p]=x at c0 hR HC;clear hrow hpl
      cases hx:(x.toList==s.toList) with
      | true=>
       rw [hx] at hR;go_wp2_with fail
       go_ret2
       exact ⟨by first|rfl|(rw [hR];rfl),rfl⟩
      | false=>
       rw [hx] at hR;go_wp2_with fail;refine (HC.out _).mono ?_;rintro e w2 ⟨rfl,rfl⟩;go_wp2_with fail
       go_ret2
       exact ⟨by first|rfl|(rw [hR];rfl),rfl⟩
    · have hp1:¬ (p:Int)<(N:Int):=by omega
      have hR:R=false:=by rw [HF.out,List.getElem?_eq_none (by rw [HNN.out];omega)]
      go_wp2_with fail
      go_ret2
      exact ⟨by first|rfl|(rw [hR];rfl),rfl⟩
theorem w_BinS (ko:Option Addr) (N kc:Nat) (ks:List ByteArray) (s:ByteArray) (w:World) (hk:KIn w ko ks) (hN:ks.length=N) (hc:N≤kc) (hN2:N≤140737488355328) (hr:rK ks ks.length=true):
 Calls Tryz.prog 150 #[.slice ko N kc,.string s] w fun e w'=>(∃ m:Int,e= .returned (.tuple #[.int .i64 m,.bool (hasK ks s)]))∧w'=w:=by
 obtain ⟨m,_,hm⟩:=w_BinX ks s hr;exact (hm ko N kc w hk hN hc hN2).mono fun e w' ⟨h1,h2⟩=>⟨⟨_,h1⟩,h2⟩
theorem w_among (ko:Option Addr) (N kc:Nat) (ks:List ByteArray) (s:ByteArray) (w:World) (hk:KIn w ko ks) (hN:ks.length=N) (hc:N≤kc) (hN2:N≤140737488355328) (hr:rK ks ks.length=true):
 Calls Tryz.prog 135 #[.string s,.slice ko N kc] w fun e w'=>e= .returned (.bool (hasK ks s))∧w'=w:=by
 have HC:=hQz (w_BinS ko N kc ks s w hk hN hc hN2 hr);generalize hasK ks s=R at HC ⊢;clear hk hN hr;go_enter Tryz.func135,Tryz.ntmps135;go_wp2_with fail;refine HC.out.mono ?_;rintro e w2 ⟨⟨m,rfl⟩,rfl⟩;go_wp2_with fail;go_ret;exact ⟨rfl,rfl⟩
theorem q03 (b off:Nat) (w:World):Calls Tryz.prog 165 #[.pointer (some ⟨b,off,none⟩)] w fun e w'=>e= .returned (.agg #[.pointer (some ⟨b,off+3,none⟩),.bool false])∧Below w.heap.size w w':=by
 go_enter Tryz.func165,Tryz.ntmps165;go_wp2_with fail;(try simp only [Exit.inBlock,Exit.then])
 refine bodyPost_ret (v:= .agg #[.pointer (some ⟨b,off+3,none⟩),.bool false]) (by simp [results,Tryz.results165,go_sem]) rfl ?_;exact ⟨rfl,by first|exact (Below.refl _ w).alloc (Nat.le_refl _) _|exact (((Below.refl _ w).alloc (Nat.le_refl _) _).setCell (p:=⟨w.heap.size,0,none⟩) (Nat.le_refl _) _).setCell (p:=⟨w.heap.size,1,none⟩) (Nat.le_refl _) _⟩
theorem q01 {w:World} {B j:Nat} {cs:Array Value} {t:TypeId} (h:w.heap[B]? =some (.cells cs t (0,0))):w.frozen? ⟨B,j,none⟩=false:=by simp [World.frozen?,h]
theorem q00 {w:World} {B:Nat} {x:Obj} (h:w.heap[B]? =some x):B<w.heap.size:=by
 rcases Nat.lt_or_ge B w.heap.size with h1|h1
 · exact h1
 · rw [Array.getElem?_eq_none h1] at h;cases h
theorem q0K {u:World} {B i:Nat} {c:Array Value} {t:TypeId} (v:Value) (h:u.heap[B]? =some (.cells c t (0,0))):(u.setCell ⟨B,i,none⟩ v).heap[B]? =some (.cells (c.setIfInBounds i v) t (0,0)):=by
 show (u.heap.modify B _)[B]? =_;rw [Array.getElem?_modify,if_pos rfl,h];rfl
theorem q06 {u:World} {B:Nat} {x y a b:Value} {t:TypeId} (h:u.heap[B]? =some (.cells #[x,y] t (0,0))):((u.setCell ⟨B,0,none⟩ a).setCell ⟨B,1,none⟩ b).heap[B]? =some (.cells #[a,b] t (0,0)):=
 q0K (i:=1) (c:= #[a,y]) b (q0K (i:=0) (c:= #[x,y]) a h)
theorem q0h (b off k:Nat) (fb foff F fc mb moff Mn mc:Nat) (m:Bool) (w:World) (hF:k<F) (hM:k<Mn) (cF:F≤fc) (cM:Mn≤mc) (lb:b<w.heap.size) (lm:mb<w.heap.size)
 (x1:w.cell? ⟨b,off+1,none⟩=some (.slice (some ⟨fb,foff,none⟩) F fc)) (x2:w.cell? ⟨b,off+2,none⟩=some (.slice (some ⟨mb,moff,none⟩) Mn mc)) (x3:w.cell? ⟨mb,moff+k,none⟩=some (.bool m)):
 Calls Tryz.prog 167 #[.pointer (some ⟨b,off,none⟩),.int .i64 (k:Int)] w fun e w'=>e= .returned (.agg #[.pointer (some ⟨fb,foff+k*9,none⟩),.bool m])∧Below w.heap.size w w':=by
 have h1:¬ (F:Int)≤(k:Int):=by omega
 have h2:¬ (Mn:Int)≤(k:Int):=by omega
 have h3:(k:Int)<(F:Int):=by omega
 have h4:(k:Int)<(Mn:Int):=by omega
 have h5:(0:Int)≤(k:Int):=by omega
 obtain ⟨W0,hW0⟩:∃ W0,w.alloc (.cells #[.pointer none,.bool false] 195)=W0:=⟨_,rfl⟩;have hB0:Below w.heap.size w W0:=by rw [← hW0];exact q05 w _
 have hR0:W0.heap[w.heap.size]? =some (.cells #[.pointer none,.bool false] 195 (0,0)):=by rw [← hW0];exact World.alloc_heap_new w _
 have y1:=(hB0.cell (p:=⟨b,off+1,none⟩) lb).trans x1;have y2:=(hB0.cell (p:=⟨b,off+2,none⟩) lb).trans x2;have HSS:Hid (∀ u,Below w.heap.size w u→u.cell? ⟨b,off+1,none⟩=some (.slice (some ⟨fb,foff,none⟩) F fc)∧u.cell? ⟨b,off+2,none⟩=some (.slice (some ⟨mb,moff,none⟩) Mn mc)∧u.cell? ⟨mb,moff+k,none⟩=some (.bool m)):=fun u hu=>⟨(hu.cell (p:=⟨_,_,_⟩) lb).trans x1,(hu.cell (p:=⟨_,_,_⟩) lb).trans x2,(hu.cell (p:=⟨_,_,_⟩) lm).trans x3⟩;have HWq:=hQz hW0;obtain ⟨WD,hWD⟩:∃ WD,W0.drew=WD:=⟨_,rfl⟩;have hD:Below W0.heap.size W0 WD:=by rw [← hWD];exact (Below.refl W0.heap.size W0).drew
 have HBD:=hQz (hB0.trans (hD.mono hB0.size));have hRD:WD.heap[w.heap.size]? =some (.cells #[.pointer none,.bool false] 195 (0,0)):=(hD.block _ (q00 hR0)).trans hR0;have g0:=cell_of_row _ _ 0 _ _ _ hRD;have g1:=cell_of_row _ _ 1 _ _ _ hRD;have f0:=q01 (j:=0) hRD;have f1:=q01 (j:=1) hRD;have HDq:=hQz hWD;have HRD:=hQz hRD;clear x1 x2 x3 hWD hD hRD;go_enter Tryz.func167,Tryz.ntmps167;go_upto_region 3 with fail
 try rw [HWq.out]
 refine wp_region_held_drew (S:=fun u=>u.cell? ⟨b,off+1,none⟩=some (.slice (some ⟨fb,foff,none⟩) F fc)∧u.cell? ⟨b,off+2,none⟩=some (.slice (some ⟨mb,moff,none⟩) Mn mc)∧u.cell? ⟨mb,moff+k,none⟩=some (.bool m)) (by kernel_rfl) (by rw [HDq.out];exact HSS.out _ HBD.out) (fun hHeld=> ?_);rw [HDq.out] at hHeld ⊢;refine wpAnyH_take (i:=0) (oi:=_) (v:= .pointer (some ⟨b,off,none⟩)) rfl (by kernel_rfl) (by kernel_rfl) (by kernel_rfl) (fun _ _ _ h=>h) (.inl ⟨by rfl,?_⟩) (by assumption) ?_
 · intro w hSw;go_simp
 try simp only [Act.put,List.getElem_toArray,List.getElem_cons_succ,List.getElem_cons_zero,List.setIfInBounds_toArray,List.set_cons_zero,List.set_cons_succ]
 refine wpAnyH_take (i:=1) (oi:=_) (v:= .pointer (some ⟨b,off,none⟩)) rfl (by kernel_rfl) (by kernel_rfl) (by kernel_rfl) (fun _ _ _ h=>h) (.inl ⟨by rfl,?_⟩) (by assumption) ?_
 · intro w hSw;go_simp
 try simp only [Act.put,List.getElem_toArray,List.getElem_cons_succ,List.getElem_cons_zero,List.setIfInBounds_toArray,List.set_cons_zero,List.set_cons_succ]
 refine wpAnyH_take (i:=2) (oi:=_) (v:= .pointer (some ⟨b,off+1,none⟩)) rfl (by kernel_rfl) (by kernel_rfl) (by kernel_rfl) (fun _ _ _ h=>h) (.inl ⟨by rfl,?_⟩) (by assumption) ?_
 · intro w hSw;go_simp
 try simp only [Act.put,List.getElem_toArray,List.getElem_cons_succ,List.getElem_cons_zero,List.setIfInBounds_toArray,List.set_cons_zero,List.set_cons_succ]
 refine wpAnyH_take (i:=3) (oi:=_) (v:= .slice (some ⟨fb,foff,none⟩) F fc) rfl (by kernel_rfl) (by kernel_rfl) (by kernel_rfl) (fun _ _ _ h=>h) (.inl ⟨by rfl,?_⟩) (by assumption) ?_
 · intro w hSw;go_simp
 try simp only [Act.put,List.getElem_toArray,List.getElem_cons_succ,List.getElem_cons_zero,List.setIfInBounds_toArray,List.set_cons_zero,List.set_cons_succ]
 refine wpAnyH_take (i:=4) (oi:=_) (v:= .int .i64 (k:Int)) rfl (by kernel_rfl) (by kernel_rfl) (by kernel_rfl) (fun _ _ _ h=>h) (.inl ⟨by rfl,?_⟩) (by assumption) ?_
 · intro w hSw;go_simp
 try simp only [Act.put,List.getElem_toArray,List.getElem_cons_succ,List.getElem_cons_zero,List.setIfInBounds_toArray,List.set_cons_zero,List.set_cons_succ]
 refine wpAnyH_take (i:=5) (oi:=_) (v:= .pointer (some ⟨fb,foff+k*9,none⟩)) rfl (by kernel_rfl) (by kernel_rfl) (by kernel_rfl) (fun _ _ _ h=>h) (.inl ⟨by rfl,?_⟩) (by assumption) ?_
 · intro w hSw;go_simp
 try simp only [Act.put,List.getElem_toArray,List.getElem_cons_succ,List.getElem_cons_zero,List.setIfInBounds_toArray,List.set_cons_zero,List.set_cons_succ]
 refine wpAnyH_take (i:=6) (oi:=_) (v:= .pointer (some ⟨b,off,none⟩)) rfl (by kernel_rfl) (by kernel_rfl) (by kernel_rfl) (fun _ _ _ h=>h) (.inl ⟨by rfl,?_⟩) (by assumption) ?_
 · intro w hSw;go_simp
 try simp only [Act.put,List.getElem_toArray,List.getElem_cons_succ,List.getElem_cons_zero,List.setIfInBounds_toArray,List.set_cons_zero,List.set_cons_succ]
 refine wpAnyH_take (i:=7) (oi:=_) (v:= .pointer (some ⟨b,off,none⟩)) rfl (by kernel_rfl) (by kernel_rfl) (by kernel_rfl) (fun _ _ _ h=>h) (.inl ⟨by rfl,?_⟩) (by assumption) ?_
 · intro w hSw;go_simp
 try simp only [Act.put,List.getElem_toArray,List.getElem_cons_succ,List.getElem_cons_zero,List.setIfInBounds_toArray,List.set_cons_zero,List.set_cons_succ]
 refine wpAnyH_take (i:=8) (oi:=_) (v:= .pointer (some ⟨b,off+2,none⟩)) rfl (by kernel_rfl) (by kernel_rfl) (by kernel_rfl) (fun _ _ _ h=>h) (.inl ⟨by rfl,?_⟩) (by assumption) ?_
 · intro w hSw;go_simp
 try simp only [Act.put,List.getElem_toArray,List.getElem_cons_succ,List.getElem_cons_zero,List.setIfInBounds_toArray,List.set_cons_zero,List.set_cons_succ]
 refine wpAnyH_take (i:=9) (oi:=_) (v:= .slice (some ⟨mb,moff,none⟩) Mn mc) rfl (by kernel_rfl) (by kernel_rfl) (by kernel_rfl) (fun _ _ _ h=>h) (.inl ⟨by rfl,?_⟩) (by assumption) ?_
 · intro w hSw;go_simp
 try simp only [Act.put,List.getElem_toArray,List.getElem_cons_succ,List.getElem_cons_zero,List.setIfInBounds_toArray,List.set_cons_zero,List.set_cons_succ]
 refine wpAnyH_take (i:=10) (oi:=_) (v:= .int .i64 (k:Int)) rfl (by kernel_rfl) (by kernel_rfl) (by kernel_rfl) (fun _ _ _ h=>h) (.inl ⟨by rfl,?_⟩) (by assumption) ?_
 · intro w hSw;go_simp
 try simp only [Act.put,List.getElem_toArray,List.getElem_cons_succ,List.getElem_cons_zero,List.setIfInBounds_toArray,List.set_cons_zero,List.set_cons_succ]
 refine wpAnyH_take (i:=11) (oi:=_) (v:= .pointer (some ⟨mb,moff+k,none⟩)) rfl (by kernel_rfl) (by kernel_rfl) (by kernel_rfl) (fun _ _ _ h=>h) (.inl ⟨by rfl,?_⟩) (by assumption) ?_
 · intro w hSw;go_simp
 try simp only [Act.put,List.getElem_toArray,List.getElem_cons_succ,List.getElem_cons_zero,List.setIfInBounds_toArray,List.set_cons_zero,List.set_cons_succ]
 refine wpAnyH_take (i:=12) (oi:=_) (v:= .bool m) rfl (by kernel_rfl) (by kernel_rfl) (by kernel_rfl) (fun _ _ _ h=>h) (.inl ⟨by rfl,?_⟩) (by assumption) ?_
 · intro w hSw;go_simp
 try simp only [Act.put,List.getElem_toArray,List.getElem_cons_succ,List.getElem_cons_zero,List.setIfInBounds_toArray,List.set_cons_zero,List.set_cons_succ]
 refine wpAnyH_take (i:=13) (oi:=_) (v:= .agg #[.pointer (some ⟨fb,foff+k*9,none⟩),.bool m]) rfl (by kernel_rfl) (by kernel_rfl) (by kernel_rfl) (fun _ _ _ h=>h) (.inl ⟨by rfl,?_⟩) (by assumption) ?_
 · intro w hSw;go_simp
 try simp only [Act.put,List.getElem_toArray,List.getElem_cons_succ,List.getElem_cons_zero,List.setIfInBounds_toArray,List.set_cons_zero,List.set_cons_succ]
 refine wpAnyH_ready (rs:=[14]) (by kernel_rfl) (by simp) ?_;refine AllReadyH.cons (o:=_) rfl (fun K hK=> ?_) AllReadyH.nil;go_simp;obtain ⟨W9,hW9⟩:∃ W9,(WD.setCell ⟨w.heap.size,0,none⟩ (.pointer (some ⟨fb,foff+k*9,none⟩))).setCell ⟨w.heap.size,1,none⟩ (.bool m)=W9:=⟨_,rfl⟩;have hB9:Below w.heap.size w W9:=by rw [← hW9];exact (HBD.out.setCell (p:=⟨w.heap.size,0,none⟩) (Nat.le_refl _) _).setCell (p:=⟨w.heap.size,1,none⟩) (Nat.le_refl _) _
 try rw [hW9]
 refine hK.out _ _ (HSS.out _ hB9) (fun hHeld=> ?_);clear hK K
 try simp only [Act.put,List.getElem_toArray,List.getElem_cons_succ,List.getElem_cons_zero,List.setIfInBounds_toArray,List.set_cons_zero,List.set_cons_succ]
 refine wpAnyH_done (by kernel_rfl) ?_ _
 try simp only [Act.put,List.getElem_toArray,List.getElem_cons_succ,List.getElem_cons_zero,List.setIfInBounds_toArray,List.set_cons_zero,List.set_cons_succ]
 have z0:W9.cell? ⟨w.heap.size,0,none⟩=some (.pointer (some ⟨fb,foff+k*9,none⟩)):=by rw [← hW9];exact cell_of_row _ _ 0 _ _ _ (q06 HRD.out)
 have z1:W9.cell? ⟨w.heap.size,1,none⟩=some (.bool m):=by rw [← hW9];exact cell_of_row _ _ 1 _ _ _ (q06 HRD.out)
 go_wp2_with fail;(try simp only [Exit.inBlock,Exit.then])
 refine bodyPost_ret (v:= .agg #[.pointer (some ⟨fb,foff+k*9,none⟩),.bool m]) (by simp [results,Tryz.results167,go_sem,z0,z1]) rfl ?_;exact ⟨rfl,hB9⟩
def ahd:List ByteArray→List ByteArray→Int
 | [],_=>1
 | _::_,[]=> -1
 | x::_,y::_=>Pl.cmpS x.toList y.toList
theorem q0k (ao:Option Addr) (M ac:Nat) (bo:Option Addr) (N bc:Nat) (xs ys:List ByteArray) (w:World) (hx:KIn w ao xs) (hy:KIn w bo ys) (hM:xs.length=M) (hN:ys.length=N) (cM:M≤ac) (cN:N≤bc):
 Calls Tryz.prog 166 #[.slice ao M ac,.slice bo N bc] w fun e w'=>e= .returned (.int .i64 (ahd xs ys))∧Below w.heap.size w w':=by
 cases xs with
 | nil=>
  have hM0:M=0:=hM.symm;subst hM0;show Calls _ _ _ _ fun e w'=>e= .returned (.int .i64 1)∧_;clear hx hy hM hN;go_enter Tryz.func166,Tryz.ntmps166;go_wp2_with fail;go_ret;exact ⟨rfl,Below.refl _ _⟩
 | cons x xs=>
  have hm:((M:Int)==0)=false:=by rw [← hM];simp;try omega
  have hm3:(0:Int)<(M:Int):=by rw [← hM];simp [List.length_cons];try omega
  cases ys with
  | nil=>
   have hN0:N=0:=hN.symm;subst hN0;show Calls _ _ _ _ fun e w'=>e= .returned (.int .i64 (-1))∧_;clear hx hy hM hN;go_enter Tryz.func166,Tryz.ntmps166;go_wp2_with fail;go_ret;exact ⟨rfl,Below.refl _ _⟩
  | cons y ys=>
   have hn:((N:Int)==0)=false:=by rw [← hN];simp;try omega
   have hn3:(0:Int)<(N:Int):=by rw [← hN];simp [List.length_cons];try omega
   show Calls _ _ _ _ fun e w'=>e= .returned (.int .i64 (Pl.cmpS x.toList y.toList))∧_;obtain ⟨b,off,rfl,hl,hc⟩:=hx.row (by simp);obtain ⟨b2,off2,rfl,hl2,hc2⟩:=hy.row (by simp);have c0:w.cell? ⟨b,off,none⟩=some (.string x):=hc 0 (by simp);have c1:w.cell? ⟨b2,off2,none⟩=some (.string y):=hc2 0 (by simp);have A0:=fun d os=>cell_regrown c0 d os;have A1:=fun d os=>cell_regrown c1 d os;have HC:Hid (∀ (d:Nat) (os:Array Obj),Calls Tryz.prog 172 #[.string x,.string y] (grow (redrawn w d) os) fun e w'=>e= .returned (.int .i64 (Pl.cmpS x.toList y.toList))∧Below (grow (redrawn w d) os).heap.size (grow (redrawn w d) os) w'):=fun d os=>(q0H x y (grow (redrawn w d) os)).mono fun e w' ⟨he,hw⟩=>⟨he,by rw [hw];exact Below.refl _ _⟩;generalize Pl.cmpS x.toList y.toList=C at HC ⊢;clear hx hy hM hN hc hc2;go_enter Tryz.func166,Tryz.ntmps166;go_wp2_with fail;refine wp_region_quiet_below (by kernel_rfl) (by kernel_rfl) ?_
   repeat (go_big_quiet_step (exact Calls.regrown_of (HC.out _ _)))
   refine wpQuiet_nil ?_;intro w9 hw'
   have hbw9:Below w.heap.size w w9:=by
    obtain ⟨⟨dq,osq⟩,rfl⟩:=hw';exact below_regrown w dq osq
   clear hw' A0 A1 c0 c1;go_wp2_with fail;go_ret;exact ⟨rfl,hbw9⟩
theorem KIn.drop {W:World} {keys:List ByteArray} {b off p:Nat} (h:KIn W (some ⟨b,off,none⟩) keys) (hp:p<keys.length):KIn W (some ⟨b,off+p,none⟩) (keys.drop p):=by
 refine ⟨fun h0=> ?_⟩;obtain ⟨b',off',e,hl,hc⟩:=h.row (by omega);simp only [Option.some.injEq,Addr.mk.injEq,and_true] at e;obtain ⟨rfl,rfl⟩:=e;refine ⟨b,off+p,rfl,hl,fun i hi=> ?_⟩;have hi2:i<keys.length-p:=by simpa using hi
 have:=hc (p+i) (by omega);rw [show off+p+i=off+(p+i) from by omega,this]
 congr 2
 rw [List.getD_eq_getElem?_getD,List.getD_eq_getElem?_getD,List.getElem?_drop]
theorem zip_at {o:OB} (h:OkO o) {p:Nat} (hp:p<o.names.length):(zipO o).drop p=(o.names[p],o.fields[p]'(by have:=h.fl;omega),o.must[p]'(by have:=h.ml;omega))::(zipO o).drop (p+1):=by
 have hl:(zipO o).length=o.names.length:=by rw [← List.length_map (f:=(·.1)),q0d h]
 rw [List.drop_eq_getElem_cons (by omega)]
 congr 1
 unfold zipO;rw [List.getElem_zip,List.getElem_zip]
theorem q0J {o:OB} (h:OkO o):(zipO o).drop o.names.length=[]:=by
 have hl:(zipO o).length=o.names.length:=by rw [← List.length_map (f:=(·.1)),q0d h]
 exact List.drop_eq_nil_of_le (by omega)
theorem zip_left {o:OB} {M p:Nat} (h:OkO o) (hM:o.names.length=M):((zipO o).drop (p+1)).length=M-(p+1):=by
 have hl:(zipO o).length=o.names.length:=by rw [← List.length_map (f:=(·.1)),q0d h]
 rw [List.length_drop];omega
theorem mg_fuel (g:TT × Bool→TT × Bool→Bool) (ra rb:TT):∀ (n m:Nat) (xs ys:List (ByteArray × TT × Bool)),xs.length+ys.length≤n→xs.length+ys.length≤m→mgF g ra rb n xs ys=mgF g ra rb m xs ys
 | 0,m,xs,ys,h1,h2=>by
  obtain rfl:xs=[]:=List.eq_nil_of_length_eq_zero (by omega);obtain rfl:ys=[]:=List.eq_nil_of_length_eq_zero (by omega)
  cases m <;> rfl
 | n+1,0,xs,ys,h1,h2=>by
  obtain rfl:xs=[]:=List.eq_nil_of_length_eq_zero (by omega);obtain rfl:ys=[]:=List.eq_nil_of_length_eq_zero (by omega);rfl
 | n+1,m+1,[],[],_,_=>rfl
 | n+1,m+1,x::xs,[],h1,h2=>by
  rw [mgF,mgF,mg_fuel g ra rb n m xs [] (by simp at h1 ⊢;omega) (by simp at h2 ⊢;omega)]
 | n+1,m+1,[],y::ys,h1,h2=>by
  rw [mgF,mgF,mg_fuel g ra rb n m [] ys (by simp at h1 ⊢;omega) (by simp at h2 ⊢;omega)]
 | n+1,m+1,x::xs,y::ys,h1,h2=>by
  simp only [List.length_cons] at h1 h2;rw [mgF,mgF,mg_fuel g ra rb n m xs (y::ys) (by simp;omega) (by simp;omega),mg_fuel g ra rb n m (x::xs) ys (by simp;omega) (by simp;omega),mg_fuel g ra rb n m xs ys (by omega) (by omega)]
theorem mg_less (g:TT × Bool→TT × Bool→Bool) (ra rb:TT) {n a b:Nat} {xs ys:List (ByteArray × TT × Bool)} (h:a+b≤n) (ha:xs.length=a) (hb:ys.length=b):mgF g ra rb n xs ys=mgF g ra rb (a+b) xs ys:=mg_fuel g ra rb _ _ xs ys (by omega) (by omega)
theorem cmpS_lt {a b:ByteArray} (h:a.toList<b.toList):Pl.cmpS a.toList b.toList= -1:=by unfold Pl.cmpS;rw [q0Q,decide_eq_true h,if_pos rfl]
theorem cmpS_gt {a b:ByteArray} (h:b.toList<a.toList):Pl.cmpS a.toList b.toList=1:=by
 have h1:¬ a.toList<b.toList:=fun h2=>List.lt_irrefl _ (List.lt_trans h h2)
 have h2:(a.toList==b.toList)=false:=by
  cases e:(a.toList==b.toList) with
  | false=>rfl
  | true=>rw [beq_iff_eq] at e;rw [e] at h;exact absurd h (List.lt_irrefl _)
 unfold Pl.cmpS;rw [q0Q,decide_eq_false h1,if_neg (by simp),h2,if_neg (by simp)]
theorem cmpS_eq {a:ByteArray}:Pl.cmpS a.toList a.toList=0:=by
 unfold Pl.cmpS;rw [q0Q,decide_eq_false (List.lt_irrefl _),if_neg (by simp),if_pos (by simp)]
theorem each_lie (h:Nat) (g:TT × Bool→TT × Bool→Bool) (a b:OB) (ba oa bb ob:Nat) (ko:Option Addr) (kc:Nat) (fo:Option Addr) (fc:Nat) (mo:Option Addr) (mc:Nat) (lo:Option Addr) (lc:Nat) (eo:Option Addr) (ec:Nat) (no:Option Addr) (nc:Nat) (w:World)
 (hA:PtO w h a ba oa ko kc fo fc mo mc) (hB:PtO w h b bb ob lo lc eo ec no nc) (oA:OkO a) (oB:OkO b)
 (HC:Hid (∀ u x y b1 o1 b2 o2,Below w.heap.size w u→PtT u h x.1 b1 o1→PtT u h y.1 b2 o2→(x.1=a.rest∨x.1∈a.fields)→(y.1=b.rest∨y.1∈b.fields)→Calls Tryz.prog 152 #[.agg #[.pointer (some ⟨b1,o1,none⟩),.bool x.2],.agg #[.pointer (some ⟨b2,o2,none⟩),.bool y.2]] u fun e w'=>e= .returned (.bool (g x y))∧Below u.heap.size u w')):
 Calls Tryz.prog 153 #[.pointer (some ⟨ba,oa,none⟩),.pointer (some ⟨bb,ob,none⟩),.func (.func 152) #[] #[]] w fun e w'=>e= .returned (.bool (mgF g a.rest b.rest (a.names.length+b.names.length) (zipO a) (zipO b)))∧Below w.heap.size w w':=by
 have HA:=hQz hA;have HBB:=hQz hB;have HOA:=hQz oA;have HOB:=hQz oB;obtain ⟨M,hM⟩:∃ M,a.names.length=M:=⟨_,rfl⟩;obtain ⟨N,hN⟩:∃ N,b.names.length=N:=⟨_,rfl⟩;have HM:=hQz hM;have HN:=hQz hN;have hM2:M≤140737488355328:=by rw [← hM];exact hA.lens.1
 have hN2:N≤140737488355328:=by rw [← hN];exact hB.lens.1
 have hMc:M≤kc:=by rw [← hM];exact hA.caps.1
 have hNc:N≤lc:=by rw [← hN];exact hB.caps.1
 have HX:Hid (∀ u,Below w.heap.size w u→u.cell? ⟨ba,oa,none⟩=some (.slice ko M kc)∧u.cell? ⟨bb,ob,none⟩=some (.slice lo N lc)):=fun u hu=>⟨by have:=(hA.keep hu).c0;rw [hM] at this;exact this,by have:=(hB.keep hu).c0;rw [hN] at this;exact this⟩
 rw [hM,hN];obtain ⟨R,hR⟩:∃ R,mgF g a.rest b.rest (M+N) (zipO a) (zipO b)=R:=⟨_,rfl⟩;have HR:=hQz hR;rw [hR];clear hA hB oA oB hM hN hR;obtain ⟨x0,y0⟩:=HX.out w (Below.refl _ _);go_enter Tryz.func153,Tryz.ntmps153;go_wp2_with fail
 go_loopw [7,8] (fun i j wr=>∃ p q:Nat,p≤M∧q≤N∧i= .int .i64 (p:Int)∧j= .int .i64 (q:Int)∧Hid (Below w.heap.size w wr)∧Hid (mgF g a.rest b.rest (M-p+(N-q)) ((zipO a).drop p) ((zipO b).drop q)=R)) (fun i j _=>(M+N)-((intOf i).toNat+(intOf j).toNat))
 case atStart=>exact ⟨0,0,Nat.zero_le _,Nat.zero_le _,rfl,rfl,Below.refl _ _,HR.out⟩
 case round=>
  clear x0 y0 HR;obtain ⟨p,q,hp,hq,rfl,rfl,HB,HQ⟩:=hrel;obtain ⟨x0,y0⟩:=HX.out wr HB.out;by_cases hpM:p<M
  · have hpM1:(p:Int)<(M:Int):=by omega
    have hpM2:(p:Int)≤(M:Int):=by omega
    have hp0:(0:Int)≤(p:Int):=by omega
    have hkp:¬ kc=p:=by omega
    by_cases hqN:q<N
    · have hqN1:(q:Int)<(N:Int):=by omega
      have hqN2:(q:Int)≤(N:Int):=by omega
      have hq0:(0:Int)≤(q:Int):=by omega
      have hlq:¬ lc=q:=by omega
      have hza:=zip_at HOA.out (p:=p) (by rw [HM.out];exact hpM);have hzb:=zip_at HOB.out (p:=q) (by rw [HN.out];exact hqN);have hQ:=HQ.out;rw [hza,hzb,show M-p+(N-q)=(M-p+(N-q)-1)+1 from by omega,mgF] at hQ;have hda:a.names.drop p=a.names[p]'(by rw [HM.out];exact hpM)::a.names.drop (p+1):=List.drop_eq_getElem_cons (by rw [HM.out];exact hpM);have hdb:b.names.drop q=b.names[q]'(by rw [HN.out];exact hqN)::b.names.drop (q+1):=List.drop_eq_getElem_cons (by rw [HN.out];exact hqN);by_cases c1:(a.names[p]'(by rw [HM.out];exact hpM)).toList<(b.names[q]'(by rw [HN.out];exact hqN)).toList
      · rw [if_pos c1,← hzb,show M-p+(N-q)-1=M-(p+1)+(N-q) from by omega] at hQ;have HST:=hQz hQ;have HSD:Hid (ahd (a.names.drop p) (b.names.drop q)= -1):=by show _=_;rw [hda,hdb];exact cmpS_lt c1
        clear hza hzb hQ hda hdb c1 HQ;have hU1:=hQz (q03 ba oa);have hU2:=hQz (q03 bb ob);go_wp2_with fail;refine (hU1.out _).mono ?_;rintro e w1 ⟨rfl,hq1⟩;have HB1:=hQz (HB.out.trans (hq1.mono HB.out.size));clear hq1;go_wp2_with fail;refine (hU2.out _).mono ?_;rintro e w2 ⟨rfl,hq2⟩;have HB2:=hQz (HB1.out.trans (hq2.mono HB1.out.size));clear hq2 x0 y0;obtain ⟨XB,hXB⟩:∃ XB,w2.heap.size=XB:=⟨_,rfl⟩;obtain ⟨w3,hw3⟩:∃ w3,(w2.alloc (.cells #[.pointer (some ⟨ba,oa+3,none⟩),.bool false] 195)).alloc (.cells #[.pointer (some ⟨bb,ob+3,none⟩),.bool false] 195)=w3:=⟨_,rfl⟩;have hb3:Below w2.heap.size w2 w3:=by rw [← hw3];exact ((Below.refl _ w2).alloc (Nat.le_refl _) _).alloc (by simp) _
        have HB3:=hQz (HB2.out.trans (hb3.mono HB2.out.size));have hwX:w.heap.size≤XB:=by rw [← hXB];exact HB2.out.size
        have hX3:w3.heap[XB]? =some (.cells #[.pointer (some ⟨ba,oa+3,none⟩),.bool false] 195 (0,0)):=by rw [← hw3,← hXB];exact (Below.heap_alloc _ _ _ (by simp)).trans (World.alloc_heap_new w2 _)
        have hY3:w3.heap[XB+1]? =some (.cells #[.pointer (some ⟨bb,ob+3,none⟩),.bool false] 195 (0,0)):=by
         rw [← hw3,← hXB];have h:=World.alloc_heap_new (w2.alloc (.cells #[.pointer (some ⟨ba,oa+3,none⟩),.bool false] 195)) (.cells #[.pointer (some ⟨bb,ob+3,none⟩),.bool false] 195);rw [World.size_alloc] at h;exact h
        have HX3:=hQz hX3;have HY3:=hQz hY3;have HWq:=hQz hw3;have HBq:=hQz hXB;clear hw3 hXB hb3 hX3 hY3 hU1 hU2;go_upto_region 4 with fail
        try rw [HWq.out]
        try rw [HBq.out]
        clear HWq HBq;obtain ⟨x0,y0⟩:=HX.out w3 HB3.out;have Ax0:=fun d os=>cell_regrown x0 d os;have Ay0:=fun d os=>cell_regrown y0 d os;obtain ⟨kb,koff,rfl,hkb,hkr⟩:=HA.out.nm.row (by rw [HM.out];omega);clear hkr;obtain ⟨lb,loff,rfl,hlb,hlr⟩:=HBB.out.nm.row (by rw [HN.out];omega);clear hlr
        have HAH:Hid (∀ (d:Nat) (os:Array Obj),Calls Tryz.prog 166 #[.slice (some ⟨kb,koff+p,none⟩) (M-p) (kc-p),.slice (some ⟨lb,loff+q,none⟩) (N-q) (lc-q)] (grow (redrawn w3 d) os) fun e w'=>e= .returned (.int .i64 (-1))∧Below (grow (redrawn w3 d) os).heap.size (grow (redrawn w3 d) os) w'):=fun d os=>by
         have h:=q0k _ (M-p) (kc-p) _ (N-q) (lc-q) (a.names.drop p) (b.names.drop q) (grow (redrawn w3 d) os) (((HA.out.nm.keep HB3.out).keep (below_regrown w3 d os)).drop (by rw [HM.out];exact hpM)) (((HBB.out.nm.keep HB3.out).keep (below_regrown w3 d os)).drop (by rw [HN.out];exact hqN)) (by rw [List.length_drop,HM.out]) (by rw [List.length_drop,HN.out]) (by omega) (by omega);rw [show ahd _ _=(-1:Int) from HSD.out] at h;exact h
        refine wp_region_quiet_below (by kernel_rfl) (by kernel_rfl) ?_
        repeat (go_big_quiet_step (exact Calls.regrown_of (HAH.out _ _)))
        refine wpQuiet_nil ?_;intro w4 hw'
        have hbw9:Below w3.heap.size w3 w4:=by
         obtain ⟨⟨dq,osq⟩,rfl⟩:=hw';exact below_regrown w3 dq osq
        clear hw';have HB4:=hQz (HB3.out.trans (hbw9.mono HB3.out.size));have HX4:Hid (w4.heap[XB]? =_):=(hbw9.block _ (q00 HX3.out)).trans HX3.out;have HY4:Hid (w4.heap[XB+1]? =_):=(hbw9.block _ (q00 HY3.out)).trans HY3.out;clear hbw9 Ax0 Ay0 x0 y0 HAH;obtain ⟨fb,fbo,e5,hf5⟩:=HA.out.fd (by have:=HOA.out.fl;have:=HM.out;omega);obtain ⟨mb,mbo,e5m,hm5l,hm5⟩:=HA.out.ms.row (by have:=HOA.out.ml;have:=HM.out;omega);have z1:=(HA.out.keep HB4.out).c1;have z2:=(HA.out.keep HB4.out).c2;rw [e5] at z1;rw [e5m] at z2;have z3:=(HB4.out.cell (p:=⟨_,_,_⟩) hm5l).trans (hm5 p (by have:=HOA.out.ml;have:=HM.out;omega));have HNM5:=hQz (q0h ba oa p fb fbo _ _ mb mbo _ _ _ w4 (by have:=HOA.out.fl;have:=HM.out;omega) (by have:=HOA.out.ml;have:=HM.out;omega) HA.out.caps.2.1 HA.out.caps.2.2 (Nat.lt_of_lt_of_le HA.out.lt HB4.out.size) (Nat.lt_of_lt_of_le hm5l HB4.out.size) z1 z2 z3);have HPT5:=hQz (hf5 p (by have:=HOA.out.fl;have:=HM.out;omega));clear z1 z2 z3;go_wp2_with fail;refine HNM5.out.mono ?_;rintro e w5 ⟨rfl,hq5⟩;have HB5:=hQz (HB4.out.trans (hq5.mono HB4.out.size));have HX5:Hid (w5.heap[XB]? =_):=(hq5.block _ (q00 HX4.out)).trans HX4.out;have HY5:Hid (w5.heap[XB+1]? =_):=(hq5.block _ (q00 HY4.out)).trans HY4.out;clear hq5 HNM5;obtain ⟨w6,hw6⟩:∃ w6,(w5.setCell ⟨XB,0,none⟩ (.pointer (some ⟨fb,fbo+p*9,none⟩))).setCell ⟨XB,1,none⟩ (.bool (a.must[p]'(by have:=HOA.out.ml;have:=HM.out;omega)))=w6:=⟨_,rfl⟩;have HB6:Hid (Below w.heap.size w w6):=by show Below _ _ _;rw [← hw6];exact (HB5.out.setCell (p:=⟨XB,0,none⟩) (by show w.heap.size≤XB;omega) _).setCell (p:=⟨XB,1,none⟩) (by show w.heap.size≤XB;omega) _
        have HX6:Hid (w6.heap[XB]? =some (.cells #[.pointer (some ⟨fb,fbo+p*9,none⟩),.bool (a.must[p]'(by have:=HOA.out.ml;have:=HM.out;omega))] 195 (0,0))):=by show _=_;rw [← hw6];exact q06 HX5.out
        have HY6:Hid (w6.heap[XB+1]? =some (.cells #[.pointer (some ⟨bb,ob+3,none⟩),.bool false] 195 (0,0))):=by show _=_;rw [← hw6];exact (Below.heap_setCell _ _ _ _ (by show XB+1≠XB;omega)).trans ((Below.heap_setCell _ _ _ _ (by show XB+1≠XB;omega)).trans HY5.out)
        have u0:=cell_of_row _ _ 0 _ _ _ HX5.out;have u1:=cell_of_row _ _ 1 _ _ _ HX5.out;have v0:=q01 (j:=0) HX5.out;have v1:=q01 (j:=1) HX5.out;have HWq:=hQz hw6;clear hw6;go_upto_region 7 with fail
        try rw [HWq.out]
        clear HWq u0 u1 v0 v1;have s0:=cell_of_row _ _ 0 _ _ _ HX6.out;have s1:=cell_of_row _ _ 1 _ _ _ HX6.out;have s2:=cell_of_row _ _ 0 _ _ _ HY6.out;have s3:=cell_of_row _ _ 1 _ _ _ HY6.out;have HCL:=hQz (HC.out w6 (a.fields[p]'(by have:=HOA.out.fl;have:=HM.out;omega),a.must[p]'(by have:=HOA.out.ml;have:=HM.out;omega)) (b.rest,false) _ _ _ _ HB6.out (HPT5.out.keep HB6.out) (HBB.out.keep HB6.out).rest (.inr (List.getElem_mem _)) (.inl rfl));obtain ⟨G,hG⟩:∃ G,g (a.fields[p]'(by have:=HOA.out.fl;have:=HM.out;omega),a.must[p]'(by have:=HOA.out.ml;have:=HM.out;omega)) (b.rest,false)=G:=⟨_,rfl⟩;rw [hG] at HCL HST;clear hG
        cases G with
        | true=>
         go_wp2_with fail;refine HCL.out.mono ?_;rintro e w20 ⟨rfl,hq20⟩;have HB20:=hQz (HB6.out.trans (hq20.mono HB6.out.size));clear hq20 s0 s1 s2 s3;go_wp2_with fail;go_roundw
         case rel=>exact ⟨p+1,q,by omega,by omega,by first|rfl|go_num,by first|rfl|go_num,HB20,HST.out⟩
         case measure=>simp [intOf];omega
        | false=>
         go_wp2_with fail;refine HCL.out.mono ?_;rintro e w20 ⟨rfl,hq20⟩;have HB20:=hQz (HB6.out.trans (hq20.mono HB6.out.size));clear hq20 s0 s1 s2 s3;have HRF:Hid (false=R):=HST.out;go_wp2_with fail;go_ret;exact ⟨by rw [← HRF.out];rfl,HB20.out⟩
      · by_cases c2:(b.names[q]'(by rw [HN.out];exact hqN)).toList<(a.names[p]'(by rw [HM.out];exact hpM)).toList
        · rw [if_neg c1,if_pos c2,← hza,show M-p+(N-q)-1=M-p+(N-(q+1)) from by omega] at hQ;have HST:=hQz hQ;have HSD:Hid (ahd (a.names.drop p) (b.names.drop q)=1):=by show _=_;rw [hda,hdb];exact cmpS_gt c2
          clear hza hzb hQ hda hdb c1 c2 HQ;have hU1:=hQz (q03 ba oa);have hU2:=hQz (q03 bb ob);go_wp2_with fail;refine (hU1.out _).mono ?_;rintro e w1 ⟨rfl,hq1⟩;have HB1:=hQz (HB.out.trans (hq1.mono HB.out.size));clear hq1;go_wp2_with fail;refine (hU2.out _).mono ?_;rintro e w2 ⟨rfl,hq2⟩;have HB2:=hQz (HB1.out.trans (hq2.mono HB1.out.size));clear hq2 x0 y0;obtain ⟨XB,hXB⟩:∃ XB,w2.heap.size=XB:=⟨_,rfl⟩;obtain ⟨w3,hw3⟩:∃ w3,(w2.alloc (.cells #[.pointer (some ⟨ba,oa+3,none⟩),.bool false] 195)).alloc (.cells #[.pointer (some ⟨bb,ob+3,none⟩),.bool false] 195)=w3:=⟨_,rfl⟩;have hb3:Below w2.heap.size w2 w3:=by rw [← hw3];exact ((Below.refl _ w2).alloc (Nat.le_refl _) _).alloc (by simp) _
          have HB3:=hQz (HB2.out.trans (hb3.mono HB2.out.size));have hwX:w.heap.size≤XB:=by rw [← hXB];exact HB2.out.size
          have hX3:w3.heap[XB]? =some (.cells #[.pointer (some ⟨ba,oa+3,none⟩),.bool false] 195 (0,0)):=by rw [← hw3,← hXB];exact (Below.heap_alloc _ _ _ (by simp)).trans (World.alloc_heap_new w2 _)
          have hY3:w3.heap[XB+1]? =some (.cells #[.pointer (some ⟨bb,ob+3,none⟩),.bool false] 195 (0,0)):=by
           rw [← hw3,← hXB];have h:=World.alloc_heap_new (w2.alloc (.cells #[.pointer (some ⟨ba,oa+3,none⟩),.bool false] 195)) (.cells #[.pointer (some ⟨bb,ob+3,none⟩),.bool false] 195);rw [World.size_alloc] at h;exact h
          have HX3:=hQz hX3;have HY3:=hQz hY3;have HWq:=hQz hw3;have HBq:=hQz hXB;clear hw3 hXB hb3 hX3 hY3 hU1 hU2;go_upto_region 4 with fail
          try rw [HWq.out]
          try rw [HBq.out]
          clear HWq HBq;obtain ⟨x0,y0⟩:=HX.out w3 HB3.out;have Ax0:=fun d os=>cell_regrown x0 d os;have Ay0:=fun d os=>cell_regrown y0 d os;obtain ⟨kb,koff,rfl,hkb,hkr⟩:=HA.out.nm.row (by rw [HM.out];omega);clear hkr;obtain ⟨lb,loff,rfl,hlb,hlr⟩:=HBB.out.nm.row (by rw [HN.out];omega);clear hlr
          have HAH:Hid (∀ (d:Nat) (os:Array Obj),Calls Tryz.prog 166 #[.slice (some ⟨kb,koff+p,none⟩) (M-p) (kc-p),.slice (some ⟨lb,loff+q,none⟩) (N-q) (lc-q)] (grow (redrawn w3 d) os) fun e w'=>e= .returned (.int .i64 (1))∧Below (grow (redrawn w3 d) os).heap.size (grow (redrawn w3 d) os) w'):=fun d os=>by
           have h:=q0k _ (M-p) (kc-p) _ (N-q) (lc-q) (a.names.drop p) (b.names.drop q) (grow (redrawn w3 d) os) (((HA.out.nm.keep HB3.out).keep (below_regrown w3 d os)).drop (by rw [HM.out];exact hpM)) (((HBB.out.nm.keep HB3.out).keep (below_regrown w3 d os)).drop (by rw [HN.out];exact hqN)) (by rw [List.length_drop,HM.out]) (by rw [List.length_drop,HN.out]) (by omega) (by omega);rw [show ahd _ _=(1:Int) from HSD.out] at h;exact h
          refine wp_region_quiet_below (by kernel_rfl) (by kernel_rfl) ?_
          repeat (go_big_quiet_step (exact Calls.regrown_of (HAH.out _ _)))
          refine wpQuiet_nil ?_;intro w4 hw'
          have hbw9:Below w3.heap.size w3 w4:=by
           obtain ⟨⟨dq,osq⟩,rfl⟩:=hw';exact below_regrown w3 dq osq
          clear hw';have HB4:=hQz (HB3.out.trans (hbw9.mono HB3.out.size));have HX4:Hid (w4.heap[XB]? =_):=(hbw9.block _ (q00 HX3.out)).trans HX3.out;have HY4:Hid (w4.heap[XB+1]? =_):=(hbw9.block _ (q00 HY3.out)).trans HY3.out;clear hbw9 Ax0 Ay0 x0 y0 HAH;obtain ⟨eb,ebo,e5,hf5⟩:=HBB.out.fd (by have:=HOB.out.fl;have:=HN.out;omega);obtain ⟨nb,nbo,e5m,hm5l,hm5⟩:=HBB.out.ms.row (by have:=HOB.out.ml;have:=HN.out;omega);have z1:=(HBB.out.keep HB4.out).c1;have z2:=(HBB.out.keep HB4.out).c2;rw [e5] at z1;rw [e5m] at z2;have z3:=(HB4.out.cell (p:=⟨_,_,_⟩) hm5l).trans (hm5 q (by have:=HOB.out.ml;have:=HN.out;omega));have HNM5:=hQz (q0h bb ob q eb ebo _ _ nb nbo _ _ _ w4 (by have:=HOB.out.fl;have:=HN.out;omega) (by have:=HOB.out.ml;have:=HN.out;omega) HBB.out.caps.2.1 HBB.out.caps.2.2 (Nat.lt_of_lt_of_le HBB.out.lt HB4.out.size) (Nat.lt_of_lt_of_le hm5l HB4.out.size) z1 z2 z3);have HPT5:=hQz (hf5 q (by have:=HOB.out.fl;have:=HN.out;omega));clear z1 z2 z3;go_wp2_with fail;refine HNM5.out.mono ?_;rintro e w5 ⟨rfl,hq5⟩;have HB5:=hQz (HB4.out.trans (hq5.mono HB4.out.size));have HX5:Hid (w5.heap[XB]? =_):=(hq5.block _ (q00 HX4.out)).trans HX4.out;have HY5:Hid (w5.heap[XB+1]? =_):=(hq5.block _ (q00 HY4.out)).trans HY4.out;clear hq5 HNM5;obtain ⟨w6,hw6⟩:∃ w6,(w5.setCell ⟨XB+1,0,none⟩ (.pointer (some ⟨eb,ebo+q*9,none⟩))).setCell ⟨XB+1,1,none⟩ (.bool (b.must[q]'(by have:=HOB.out.ml;have:=HN.out;omega)))=w6:=⟨_,rfl⟩;have HB6:Hid (Below w.heap.size w w6):=by show Below _ _ _;rw [← hw6];exact (HB5.out.setCell (p:=⟨XB+1,0,none⟩) (by show w.heap.size≤XB+1;omega) _).setCell (p:=⟨XB+1,1,none⟩) (by show w.heap.size≤XB+1;omega) _
          have HX6:Hid (w6.heap[XB]? =some (.cells #[.pointer (some ⟨ba,oa+3,none⟩),.bool false] 195 (0,0))):=by show _=_;rw [← hw6];exact (Below.heap_setCell _ _ _ _ (by show XB≠XB+1;omega)).trans ((Below.heap_setCell _ _ _ _ (by show XB≠XB+1;omega)).trans HX5.out)
          have HY6:Hid (w6.heap[XB+1]? =some (.cells #[.pointer (some ⟨eb,ebo+q*9,none⟩),.bool (b.must[q]'(by have:=HOB.out.ml;have:=HN.out;omega))] 195 (0,0))):=by show _=_;rw [← hw6];exact q06 HY5.out
          have u0:=cell_of_row _ _ 0 _ _ _ HY5.out;have u1:=cell_of_row _ _ 1 _ _ _ HY5.out;have v0:=q01 (j:=0) HY5.out;have v1:=q01 (j:=1) HY5.out;have HWq:=hQz hw6;clear hw6;go_upto_region 10 with fail
          try rw [HWq.out]
          clear HWq u0 u1 v0 v1;have s0:=cell_of_row _ _ 0 _ _ _ HX6.out;have s1:=cell_of_row _ _ 1 _ _ _ HX6.out;have s2:=cell_of_row _ _ 0 _ _ _ HY6.out;have s3:=cell_of_row _ _ 1 _ _ _ HY6.out;have HCL:=hQz (HC.out w6 (a.rest,false) (b.fields[q]'(by have:=HOB.out.fl;have:=HN.out;omega),b.must[q]'(by have:=HOB.out.ml;have:=HN.out;omega)) _ _ _ _ HB6.out (HA.out.keep HB6.out).rest (HPT5.out.keep HB6.out) (.inl rfl) (.inr (List.getElem_mem _)));obtain ⟨G,hG⟩:∃ G,g (a.rest,false) (b.fields[q]'(by have:=HOB.out.fl;have:=HN.out;omega),b.must[q]'(by have:=HOB.out.ml;have:=HN.out;omega))=G:=⟨_,rfl⟩;rw [hG] at HCL HST;clear hG
          cases G with
          | true=>
           go_wp2_with fail;refine HCL.out.mono ?_;rintro e w20 ⟨rfl,hq20⟩;have HB20:=hQz (HB6.out.trans (hq20.mono HB6.out.size));clear hq20 s0 s1 s2 s3;go_wp2_with fail;go_roundw
           case rel=>exact ⟨p,q+1,by omega,by omega,by first|rfl|go_num,by first|rfl|go_num,HB20,HST.out⟩
           case measure=>simp [intOf];omega
          | false=>
           go_wp2_with fail;refine HCL.out.mono ?_;rintro e w20 ⟨rfl,hq20⟩;have HB20:=hQz (HB6.out.trans (hq20.mono HB6.out.size));clear hq20 s0 s1 s2 s3;have HRF:Hid (false=R):=HST.out;go_wp2_with fail;go_ret;exact ⟨by rw [← HRF.out];rfl,HB20.out⟩
        · rw [if_neg c1,if_neg c2,mg_less _ _ _ (show M-(p+1)+(N-(q+1))≤M-p+(N-q)-1 from by omega) (zip_left HOA.out HM.out) (zip_left HOB.out HN.out)] at hQ;have HST:=hQz hQ
          have HSD:Hid (ahd (a.names.drop p) (b.names.drop q)=0):=by
           show _=_;rw [hda,hdb];have e:=list_tri c1 c2;show Pl.cmpS _ _=0;rw [e];exact cmpS_eq
          clear hza hzb hQ hda hdb c1 c2 HQ;have hU1:=hQz (q03 ba oa);have hU2:=hQz (q03 bb ob);go_wp2_with fail;refine (hU1.out _).mono ?_;rintro e w1 ⟨rfl,hq1⟩;have HB1:=hQz (HB.out.trans (hq1.mono HB.out.size));clear hq1;go_wp2_with fail;refine (hU2.out _).mono ?_;rintro e w2 ⟨rfl,hq2⟩;have HB2:=hQz (HB1.out.trans (hq2.mono HB1.out.size));clear hq2 x0 y0;obtain ⟨XB,hXB⟩:∃ XB,w2.heap.size=XB:=⟨_,rfl⟩;obtain ⟨w3,hw3⟩:∃ w3,(w2.alloc (.cells #[.pointer (some ⟨ba,oa+3,none⟩),.bool false] 195)).alloc (.cells #[.pointer (some ⟨bb,ob+3,none⟩),.bool false] 195)=w3:=⟨_,rfl⟩;have hb3:Below w2.heap.size w2 w3:=by rw [← hw3];exact ((Below.refl _ w2).alloc (Nat.le_refl _) _).alloc (by simp) _
          have HB3:=hQz (HB2.out.trans (hb3.mono HB2.out.size));have hwX:w.heap.size≤XB:=by rw [← hXB];exact HB2.out.size
          have hX3:w3.heap[XB]? =some (.cells #[.pointer (some ⟨ba,oa+3,none⟩),.bool false] 195 (0,0)):=by rw [← hw3,← hXB];exact (Below.heap_alloc _ _ _ (by simp)).trans (World.alloc_heap_new w2 _)
          have hY3:w3.heap[XB+1]? =some (.cells #[.pointer (some ⟨bb,ob+3,none⟩),.bool false] 195 (0,0)):=by
           rw [← hw3,← hXB];have h:=World.alloc_heap_new (w2.alloc (.cells #[.pointer (some ⟨ba,oa+3,none⟩),.bool false] 195)) (.cells #[.pointer (some ⟨bb,ob+3,none⟩),.bool false] 195);rw [World.size_alloc] at h;exact h
          have HX3:=hQz hX3;have HY3:=hQz hY3;have HWq:=hQz hw3;have HBq:=hQz hXB;clear hw3 hXB hb3 hX3 hY3 hU1 hU2;go_upto_region 4 with fail
          try rw [HWq.out]
          try rw [HBq.out]
          clear HWq HBq;obtain ⟨x0,y0⟩:=HX.out w3 HB3.out;have Ax0:=fun d os=>cell_regrown x0 d os;have Ay0:=fun d os=>cell_regrown y0 d os;obtain ⟨kb,koff,rfl,hkb,hkr⟩:=HA.out.nm.row (by rw [HM.out];omega);clear hkr;obtain ⟨lb,loff,rfl,hlb,hlr⟩:=HBB.out.nm.row (by rw [HN.out];omega);clear hlr
          have HAH:Hid (∀ (d:Nat) (os:Array Obj),Calls Tryz.prog 166 #[.slice (some ⟨kb,koff+p,none⟩) (M-p) (kc-p),.slice (some ⟨lb,loff+q,none⟩) (N-q) (lc-q)] (grow (redrawn w3 d) os) fun e w'=>e= .returned (.int .i64 (0))∧Below (grow (redrawn w3 d) os).heap.size (grow (redrawn w3 d) os) w'):=fun d os=>by
           have h:=q0k _ (M-p) (kc-p) _ (N-q) (lc-q) (a.names.drop p) (b.names.drop q) (grow (redrawn w3 d) os) (((HA.out.nm.keep HB3.out).keep (below_regrown w3 d os)).drop (by rw [HM.out];exact hpM)) (((HBB.out.nm.keep HB3.out).keep (below_regrown w3 d os)).drop (by rw [HN.out];exact hqN)) (by rw [List.length_drop,HM.out]) (by rw [List.length_drop,HN.out]) (by omega) (by omega);rw [show ahd _ _=(0:Int) from HSD.out] at h;exact h
          refine wp_region_quiet_below (by kernel_rfl) (by kernel_rfl) ?_
          repeat (go_big_quiet_step (exact Calls.regrown_of (HAH.out _ _)))
          refine wpQuiet_nil ?_;intro w4 hw'
          have hbw9:Below w3.heap.size w3 w4:=by
           obtain ⟨⟨dq,osq⟩,rfl⟩:=hw';exact below_regrown w3 dq osq
          clear hw';have HB4:=hQz (HB3.out.trans (hbw9.mono HB3.out.size));have HX4:Hid (w4.heap[XB]? =_):=(hbw9.block _ (q00 HX3.out)).trans HX3.out;have HY4:Hid (w4.heap[XB+1]? =_):=(hbw9.block _ (q00 HY3.out)).trans HY3.out;clear hbw9 Ax0 Ay0 x0 y0 HAH;obtain ⟨fb,fbo,e5,hf5⟩:=HA.out.fd (by have:=HOA.out.fl;have:=HM.out;omega);obtain ⟨mb,mbo,e5m,hm5l,hm5⟩:=HA.out.ms.row (by have:=HOA.out.ml;have:=HM.out;omega);have z1:=(HA.out.keep HB4.out).c1;have z2:=(HA.out.keep HB4.out).c2;rw [e5] at z1;rw [e5m] at z2;have z3:=(HB4.out.cell (p:=⟨_,_,_⟩) hm5l).trans (hm5 p (by have:=HOA.out.ml;have:=HM.out;omega));have HNM5:=hQz (q0h ba oa p fb fbo _ _ mb mbo _ _ _ w4 (by have:=HOA.out.fl;have:=HM.out;omega) (by have:=HOA.out.ml;have:=HM.out;omega) HA.out.caps.2.1 HA.out.caps.2.2 (Nat.lt_of_lt_of_le HA.out.lt HB4.out.size) (Nat.lt_of_lt_of_le hm5l HB4.out.size) z1 z2 z3);have HPT5:=hQz (hf5 p (by have:=HOA.out.fl;have:=HM.out;omega));clear z1 z2 z3;go_wp2_with fail;refine HNM5.out.mono ?_;rintro e w5 ⟨rfl,hq5⟩;have HB5:=hQz (HB4.out.trans (hq5.mono HB4.out.size));have HX5:Hid (w5.heap[XB]? =_):=(hq5.block _ (q00 HX4.out)).trans HX4.out;have HY5:Hid (w5.heap[XB+1]? =_):=(hq5.block _ (q00 HY4.out)).trans HY4.out;clear hq5 HNM5;obtain ⟨w6,hw6⟩:∃ w6,(w5.setCell ⟨XB,0,none⟩ (.pointer (some ⟨fb,fbo+p*9,none⟩))).setCell ⟨XB,1,none⟩ (.bool (a.must[p]'(by have:=HOA.out.ml;have:=HM.out;omega)))=w6:=⟨_,rfl⟩;have HB6:Hid (Below w.heap.size w w6):=by show Below _ _ _;rw [← hw6];exact (HB5.out.setCell (p:=⟨XB,0,none⟩) (by show w.heap.size≤XB;omega) _).setCell (p:=⟨XB,1,none⟩) (by show w.heap.size≤XB;omega) _
          have HX6:Hid (w6.heap[XB]? =some (.cells #[.pointer (some ⟨fb,fbo+p*9,none⟩),.bool (a.must[p]'(by have:=HOA.out.ml;have:=HM.out;omega))] 195 (0,0))):=by show _=_;rw [← hw6];exact q06 HX5.out
          have HY6:Hid (w6.heap[XB+1]? =some (.cells #[.pointer (some ⟨bb,ob+3,none⟩),.bool false] 195 (0,0))):=by show _=_;rw [← hw6];exact (Below.heap_setCell _ _ _ _ (by show XB+1≠XB;omega)).trans ((Below.heap_setCell _ _ _ _ (by show XB+1≠XB;omega)).trans HY5.out)
          have u0:=cell_of_row _ _ 0 _ _ _ HX5.out;have u1:=cell_of_row _ _ 1 _ _ _ HX5.out;have v0:=q01 (j:=0) HX5.out;have v1:=q01 (j:=1) HX5.out;have HWq:=hQz hw6;clear hw6;go_upto_region 7 with fail
          try rw [HWq.out]
          clear HWq u0 u1 v0 v1;obtain ⟨eb,ebo,e7,hf7⟩:=HBB.out.fd (by have:=HOB.out.fl;have:=HN.out;omega);obtain ⟨nb,nbo,e7m,hm7l,hm7⟩:=HBB.out.ms.row (by have:=HOB.out.ml;have:=HN.out;omega);have z1:=(HBB.out.keep HB6.out).c1;have z2:=(HBB.out.keep HB6.out).c2;rw [e7] at z1;rw [e7m] at z2;have z3:=(HB6.out.cell (p:=⟨_,_,_⟩) hm7l).trans (hm7 q (by have:=HOB.out.ml;have:=HN.out;omega));have HNM7:=hQz (q0h bb ob q eb ebo _ _ nb nbo _ _ _ w6 (by have:=HOB.out.fl;have:=HN.out;omega) (by have:=HOB.out.ml;have:=HN.out;omega) HBB.out.caps.2.1 HBB.out.caps.2.2 (Nat.lt_of_lt_of_le HBB.out.lt HB6.out.size) (Nat.lt_of_lt_of_le hm7l HB6.out.size) z1 z2 z3);have HPT7:=hQz (hf7 q (by have:=HOB.out.fl;have:=HN.out;omega));clear z1 z2 z3;go_wp2_with fail;refine HNM7.out.mono ?_;rintro e w7 ⟨rfl,hq7⟩;have HB7:=hQz (HB6.out.trans (hq7.mono HB6.out.size));have HX7:Hid (w7.heap[XB]? =_):=(hq7.block _ (q00 HX6.out)).trans HX6.out;have HY7:Hid (w7.heap[XB+1]? =_):=(hq7.block _ (q00 HY6.out)).trans HY6.out;clear hq7 HNM7;obtain ⟨w8,hw8⟩:∃ w8,(w7.setCell ⟨XB+1,0,none⟩ (.pointer (some ⟨eb,ebo+q*9,none⟩))).setCell ⟨XB+1,1,none⟩ (.bool (b.must[q]'(by have:=HOB.out.ml;have:=HN.out;omega)))=w8:=⟨_,rfl⟩;have HB8:Hid (Below w.heap.size w w8):=by show Below _ _ _;rw [← hw8];exact (HB7.out.setCell (p:=⟨XB+1,0,none⟩) (by show w.heap.size≤XB+1;omega) _).setCell (p:=⟨XB+1,1,none⟩) (by show w.heap.size≤XB+1;omega) _
          have HX8:Hid (w8.heap[XB]? =some (.cells #[.pointer (some ⟨fb,fbo+p*9,none⟩),.bool (a.must[p]'(by have:=HOA.out.ml;have:=HM.out;omega))] 195 (0,0))):=by show _=_;rw [← hw8];exact (Below.heap_setCell _ _ _ _ (by show XB≠XB+1;omega)).trans ((Below.heap_setCell _ _ _ _ (by show XB≠XB+1;omega)).trans HX7.out)
          have HY8:Hid (w8.heap[XB+1]? =some (.cells #[.pointer (some ⟨eb,ebo+q*9,none⟩),.bool (b.must[q]'(by have:=HOB.out.ml;have:=HN.out;omega))] 195 (0,0))):=by show _=_;rw [← hw8];exact q06 HY7.out
          have u0:=cell_of_row _ _ 0 _ _ _ HY7.out;have u1:=cell_of_row _ _ 1 _ _ _ HY7.out;have v0:=q01 (j:=0) HY7.out;have v1:=q01 (j:=1) HY7.out;have HWq:=hQz hw8;clear hw8;go_upto_region 10 with fail
          try rw [HWq.out]
          clear HWq u0 u1 v0 v1;have s0:=cell_of_row _ _ 0 _ _ _ HX8.out;have s1:=cell_of_row _ _ 1 _ _ _ HX8.out;have s2:=cell_of_row _ _ 0 _ _ _ HY8.out;have s3:=cell_of_row _ _ 1 _ _ _ HY8.out;have HCL:=hQz (HC.out w8 (a.fields[p]'(by have:=HOA.out.fl;have:=HM.out;omega),a.must[p]'(by have:=HOA.out.ml;have:=HM.out;omega)) (b.fields[q]'(by have:=HOB.out.fl;have:=HN.out;omega),b.must[q]'(by have:=HOB.out.ml;have:=HN.out;omega)) _ _ _ _ HB8.out (HPT5.out.keep HB8.out) (HPT7.out.keep HB8.out) (.inr (List.getElem_mem _)) (.inr (List.getElem_mem _)));obtain ⟨G,hG⟩:∃ G,g (a.fields[p]'(by have:=HOA.out.fl;have:=HM.out;omega),a.must[p]'(by have:=HOA.out.ml;have:=HM.out;omega)) (b.fields[q]'(by have:=HOB.out.fl;have:=HN.out;omega),b.must[q]'(by have:=HOB.out.ml;have:=HN.out;omega))=G:=⟨_,rfl⟩;rw [hG] at HCL HST;clear hG
          cases G with
          | true=>
           go_wp2_with fail;refine HCL.out.mono ?_;rintro e w20 ⟨rfl,hq20⟩;have HB20:=hQz (HB8.out.trans (hq20.mono HB8.out.size));clear hq20 s0 s1 s2 s3;go_wp2_with fail;go_roundw
           case rel=>exact ⟨p+1,q+1,by omega,by omega,by first|rfl|go_num,by first|rfl|go_num,HB20,HST.out⟩
           case measure=>simp [intOf];omega
          | false=>
           go_wp2_with fail;refine HCL.out.mono ?_;rintro e w20 ⟨rfl,hq20⟩;have HB20:=hQz (HB8.out.trans (hq20.mono HB8.out.size));clear hq20 s0 s1 s2 s3;have HRF:Hid (false=R):=HST.out;go_wp2_with fail;go_ret;exact ⟨by rw [← HRF.out];rfl,HB20.out⟩
    · obtain rfl:q=N:=by omega
      have hqN1:¬ (q:Int)<(q:Int):=by omega
      have hq0:(0:Int)≤(q:Int):=by omega
      have hqN2:(q:Int)≤(q:Int):=by omega
      have hza:=zip_at HOA.out (p:=p) (by rw [HM.out];exact hpM);have hze:(zipO b).drop q=[]:=by have:=q0J HOB.out;rw [HN.out] at this;exact this
      have hQ:=HQ.out;rw [hza,hze,show M-p+(q-q)=(M-p-1)+1 from by omega,mgF,← hze,show M-p-1=M-(p+1)+(q-q) from by omega] at hQ;have HST:=hQz hQ;have hda:a.names.drop p=a.names[p]'(by rw [HM.out];exact hpM)::a.names.drop (p+1):=List.drop_eq_getElem_cons (by rw [HM.out];exact hpM);have HSD:Hid (ahd (a.names.drop p) []= -1):=by show _=_;rw [hda];rfl
      clear hza hze hQ hda HQ hqN;by_cases hlq:lc=q
      · obtain rfl:q=lc:=hlq.symm;have hU1:=hQz (q03 ba oa);have hU2:=hQz (q03 bb ob);go_wp2_with fail;refine (hU1.out _).mono ?_;rintro e w1 ⟨rfl,hq1⟩;have HB1:=hQz (HB.out.trans (hq1.mono HB.out.size));clear hq1;go_wp2_with fail;refine (hU2.out _).mono ?_;rintro e w2 ⟨rfl,hq2⟩;have HB2:=hQz (HB1.out.trans (hq2.mono HB1.out.size));clear hq2 x0 y0;obtain ⟨XB,hXB⟩:∃ XB,w2.heap.size=XB:=⟨_,rfl⟩;obtain ⟨w3,hw3⟩:∃ w3,(w2.alloc (.cells #[.pointer (some ⟨ba,oa+3,none⟩),.bool false] 195)).alloc (.cells #[.pointer (some ⟨bb,ob+3,none⟩),.bool false] 195)=w3:=⟨_,rfl⟩;have hb3:Below w2.heap.size w2 w3:=by rw [← hw3];exact ((Below.refl _ w2).alloc (Nat.le_refl _) _).alloc (by simp) _
        have HB3:=hQz (HB2.out.trans (hb3.mono HB2.out.size));have hwX:w.heap.size≤XB:=by rw [← hXB];exact HB2.out.size
        have hX3:w3.heap[XB]? =some (.cells #[.pointer (some ⟨ba,oa+3,none⟩),.bool false] 195 (0,0)):=by rw [← hw3,← hXB];exact (Below.heap_alloc _ _ _ (by simp)).trans (World.alloc_heap_new w2 _)
        have hY3:w3.heap[XB+1]? =some (.cells #[.pointer (some ⟨bb,ob+3,none⟩),.bool false] 195 (0,0)):=by
         rw [← hw3,← hXB];have h:=World.alloc_heap_new (w2.alloc (.cells #[.pointer (some ⟨ba,oa+3,none⟩),.bool false] 195)) (.cells #[.pointer (some ⟨bb,ob+3,none⟩),.bool false] 195);rw [World.size_alloc] at h;exact h
        have HX3:=hQz hX3;have HY3:=hQz hY3;have HWq:=hQz hw3;have HBq:=hQz hXB;clear hw3 hXB hb3 hX3 hY3 hU1 hU2;go_upto_region 4 with fail
        try rw [HWq.out]
        try rw [HBq.out]
        clear HWq HBq;obtain ⟨x0,y0⟩:=HX.out w3 HB3.out;have Ax0:=fun d os=>cell_regrown x0 d os;have Ay0:=fun d os=>cell_regrown y0 d os;obtain ⟨kb,koff,rfl,hkb,hkr⟩:=HA.out.nm.row (by rw [HM.out];omega);clear hkr
        have HAH:Hid (∀ (X:Option Addr) (Y:Nat) (d:Nat) (os:Array Obj),Calls Tryz.prog 166 #[.slice (some ⟨kb,koff+p,none⟩) (M-p) (kc-p),.slice X 0 Y] (grow (redrawn w3 d) os) fun e w'=>e= .returned (.int .i64 (-1))∧Below (grow (redrawn w3 d) os).heap.size (grow (redrawn w3 d) os) w'):=fun X Y d os=>by
         have h:=q0k _ (M-p) (kc-p) X 0 Y (a.names.drop p) [] (grow (redrawn w3 d) os) (((HA.out.nm.keep HB3.out).keep (below_regrown w3 d os)).drop (by rw [HM.out];exact hpM)) (⟨fun h0=>absurd h0 (Nat.lt_irrefl 0)⟩:KIn _ X []) (by rw [List.length_drop,HM.out]) rfl (by omega) (by omega);rw [show ahd _ _=(-1:Int) from HSD.out] at h;exact h
        refine wp_region_quiet_below (by kernel_rfl) (by kernel_rfl) ?_
        repeat (go_big_quiet_step (exact Calls.regrown_of (HAH.out _ _ _ _)))
        refine wpQuiet_nil ?_;intro w4 hw'
        have hbw9:Below w3.heap.size w3 w4:=by
         obtain ⟨⟨dq,osq⟩,rfl⟩:=hw';exact below_regrown w3 dq osq
        clear hw';have HB4:=hQz (HB3.out.trans (hbw9.mono HB3.out.size));have HX4:Hid (w4.heap[XB]? =_):=(hbw9.block _ (q00 HX3.out)).trans HX3.out;have HY4:Hid (w4.heap[XB+1]? =_):=(hbw9.block _ (q00 HY3.out)).trans HY3.out;clear hbw9 Ax0 Ay0 x0 y0 HAH;obtain ⟨fb,fbo,e5,hf5⟩:=HA.out.fd (by have:=HOA.out.fl;have:=HM.out;omega);obtain ⟨mb,mbo,e5m,hm5l,hm5⟩:=HA.out.ms.row (by have:=HOA.out.ml;have:=HM.out;omega);have z1:=(HA.out.keep HB4.out).c1;have z2:=(HA.out.keep HB4.out).c2;rw [e5] at z1;rw [e5m] at z2;have z3:=(HB4.out.cell (p:=⟨_,_,_⟩) hm5l).trans (hm5 p (by have:=HOA.out.ml;have:=HM.out;omega));have HNM5:=hQz (q0h ba oa p fb fbo _ _ mb mbo _ _ _ w4 (by have:=HOA.out.fl;have:=HM.out;omega) (by have:=HOA.out.ml;have:=HM.out;omega) HA.out.caps.2.1 HA.out.caps.2.2 (Nat.lt_of_lt_of_le HA.out.lt HB4.out.size) (Nat.lt_of_lt_of_le hm5l HB4.out.size) z1 z2 z3);have HPT5:=hQz (hf5 p (by have:=HOA.out.fl;have:=HM.out;omega));clear z1 z2 z3;go_wp2_with fail;refine HNM5.out.mono ?_;rintro e w5 ⟨rfl,hq5⟩;have HB5:=hQz (HB4.out.trans (hq5.mono HB4.out.size));have HX5:Hid (w5.heap[XB]? =_):=(hq5.block _ (q00 HX4.out)).trans HX4.out;have HY5:Hid (w5.heap[XB+1]? =_):=(hq5.block _ (q00 HY4.out)).trans HY4.out;clear hq5 HNM5;obtain ⟨w6,hw6⟩:∃ w6,(w5.setCell ⟨XB,0,none⟩ (.pointer (some ⟨fb,fbo+p*9,none⟩))).setCell ⟨XB,1,none⟩ (.bool (a.must[p]'(by have:=HOA.out.ml;have:=HM.out;omega)))=w6:=⟨_,rfl⟩;have HB6:Hid (Below w.heap.size w w6):=by show Below _ _ _;rw [← hw6];exact (HB5.out.setCell (p:=⟨XB,0,none⟩) (by show w.heap.size≤XB;omega) _).setCell (p:=⟨XB,1,none⟩) (by show w.heap.size≤XB;omega) _
        have HX6:Hid (w6.heap[XB]? =some (.cells #[.pointer (some ⟨fb,fbo+p*9,none⟩),.bool (a.must[p]'(by have:=HOA.out.ml;have:=HM.out;omega))] 195 (0,0))):=by show _=_;rw [← hw6];exact q06 HX5.out
        have HY6:Hid (w6.heap[XB+1]? =some (.cells #[.pointer (some ⟨bb,ob+3,none⟩),.bool false] 195 (0,0))):=by show _=_;rw [← hw6];exact (Below.heap_setCell _ _ _ _ (by show XB+1≠XB;omega)).trans ((Below.heap_setCell _ _ _ _ (by show XB+1≠XB;omega)).trans HY5.out)
        have u0:=cell_of_row _ _ 0 _ _ _ HX5.out;have u1:=cell_of_row _ _ 1 _ _ _ HX5.out;have v0:=q01 (j:=0) HX5.out;have v1:=q01 (j:=1) HX5.out;have HWq:=hQz hw6;clear hw6;go_upto_region 7 with fail
        try rw [HWq.out]
        clear HWq u0 u1 v0 v1;have s0:=cell_of_row _ _ 0 _ _ _ HX6.out;have s1:=cell_of_row _ _ 1 _ _ _ HX6.out;have s2:=cell_of_row _ _ 0 _ _ _ HY6.out;have s3:=cell_of_row _ _ 1 _ _ _ HY6.out;have HCL:=hQz (HC.out w6 (a.fields[p]'(by have:=HOA.out.fl;have:=HM.out;omega),a.must[p]'(by have:=HOA.out.ml;have:=HM.out;omega)) (b.rest,false) _ _ _ _ HB6.out (HPT5.out.keep HB6.out) (HBB.out.keep HB6.out).rest (.inr (List.getElem_mem _)) (.inl rfl));obtain ⟨G,hG⟩:∃ G,g (a.fields[p]'(by have:=HOA.out.fl;have:=HM.out;omega),a.must[p]'(by have:=HOA.out.ml;have:=HM.out;omega)) (b.rest,false)=G:=⟨_,rfl⟩;rw [hG] at HCL HST;clear hG
        cases G with
        | true=>
         go_wp2_with fail;refine HCL.out.mono ?_;rintro e w20 ⟨rfl,hq20⟩;have HB20:=hQz (HB6.out.trans (hq20.mono HB6.out.size));clear hq20 s0 s1 s2 s3;go_wp2_with fail;go_roundw
         case rel=>exact ⟨p+1,q,by omega,by omega,by first|rfl|go_num,by first|rfl|go_num,HB20,HST.out⟩
         case measure=>simp [intOf];omega
        | false=>
         go_wp2_with fail;refine HCL.out.mono ?_;rintro e w20 ⟨rfl,hq20⟩;have HB20:=hQz (HB6.out.trans (hq20.mono HB6.out.size));clear hq20 s0 s1 s2 s3;have HRF:Hid (false=R):=HST.out;go_wp2_with fail;go_ret;exact ⟨by rw [← HRF.out];rfl,HB20.out⟩
      · have hU1:=hQz (q03 ba oa);have hU2:=hQz (q03 bb ob);go_wp2_with fail;refine (hU1.out _).mono ?_;rintro e w1 ⟨rfl,hq1⟩;have HB1:=hQz (HB.out.trans (hq1.mono HB.out.size));clear hq1;go_wp2_with fail;refine (hU2.out _).mono ?_;rintro e w2 ⟨rfl,hq2⟩;have HB2:=hQz (HB1.out.trans (hq2.mono HB1.out.size));clear hq2 x0 y0;obtain ⟨XB,hXB⟩:∃ XB,w2.heap.size=XB:=⟨_,rfl⟩;obtain ⟨w3,hw3⟩:∃ w3,(w2.alloc (.cells #[.pointer (some ⟨ba,oa+3,none⟩),.bool false] 195)).alloc (.cells #[.pointer (some ⟨bb,ob+3,none⟩),.bool false] 195)=w3:=⟨_,rfl⟩;have hb3:Below w2.heap.size w2 w3:=by rw [← hw3];exact ((Below.refl _ w2).alloc (Nat.le_refl _) _).alloc (by simp) _
        have HB3:=hQz (HB2.out.trans (hb3.mono HB2.out.size));have hwX:w.heap.size≤XB:=by rw [← hXB];exact HB2.out.size
        have hX3:w3.heap[XB]? =some (.cells #[.pointer (some ⟨ba,oa+3,none⟩),.bool false] 195 (0,0)):=by rw [← hw3,← hXB];exact (Below.heap_alloc _ _ _ (by simp)).trans (World.alloc_heap_new w2 _)
        have hY3:w3.heap[XB+1]? =some (.cells #[.pointer (some ⟨bb,ob+3,none⟩),.bool false] 195 (0,0)):=by
         rw [← hw3,← hXB];have h:=World.alloc_heap_new (w2.alloc (.cells #[.pointer (some ⟨ba,oa+3,none⟩),.bool false] 195)) (.cells #[.pointer (some ⟨bb,ob+3,none⟩),.bool false] 195);rw [World.size_alloc] at h;exact h
        have HX3:=hQz hX3;have HY3:=hQz hY3;have HWq:=hQz hw3;have HBq:=hQz hXB;clear hw3 hXB hb3 hX3 hY3 hU1 hU2;go_upto_region 4 with fail
        try rw [HWq.out]
        try rw [HBq.out]
        clear HWq HBq;obtain ⟨x0,y0⟩:=HX.out w3 HB3.out;have Ax0:=fun d os=>cell_regrown x0 d os;have Ay0:=fun d os=>cell_regrown y0 d os;obtain ⟨kb,koff,rfl,hkb,hkr⟩:=HA.out.nm.row (by rw [HM.out];omega);clear hkr
        have HAH:Hid (∀ (X:Option Addr) (Y:Nat) (d:Nat) (os:Array Obj),Calls Tryz.prog 166 #[.slice (some ⟨kb,koff+p,none⟩) (M-p) (kc-p),.slice X 0 Y] (grow (redrawn w3 d) os) fun e w'=>e= .returned (.int .i64 (-1))∧Below (grow (redrawn w3 d) os).heap.size (grow (redrawn w3 d) os) w'):=fun X Y d os=>by
         have h:=q0k _ (M-p) (kc-p) X 0 Y (a.names.drop p) [] (grow (redrawn w3 d) os) (((HA.out.nm.keep HB3.out).keep (below_regrown w3 d os)).drop (by rw [HM.out];exact hpM)) (⟨fun h0=>absurd h0 (Nat.lt_irrefl 0)⟩:KIn _ X []) (by rw [List.length_drop,HM.out]) rfl (by omega) (by omega);rw [show ahd _ _=(-1:Int) from HSD.out] at h;exact h
        refine wp_region_quiet_below (by kernel_rfl) (by kernel_rfl) ?_
        repeat (go_big_quiet_step (exact Calls.regrown_of (HAH.out _ _ _ _)))
        refine wpQuiet_nil ?_;intro w4 hw'
        have hbw9:Below w3.heap.size w3 w4:=by
         obtain ⟨⟨dq,osq⟩,rfl⟩:=hw';exact below_regrown w3 dq osq
        clear hw';have HB4:=hQz (HB3.out.trans (hbw9.mono HB3.out.size));have HX4:Hid (w4.heap[XB]? =_):=(hbw9.block _ (q00 HX3.out)).trans HX3.out;have HY4:Hid (w4.heap[XB+1]? =_):=(hbw9.block _ (q00 HY3.out)).trans HY3.out;clear hbw9 Ax0 Ay0 x0 y0 HAH;obtain ⟨fb,fbo,e5,hf5⟩:=HA.out.fd (by have:=HOA.out.fl;have:=HM.out;omega);obtain ⟨mb,mbo,e5m,hm5l,hm5⟩:=HA.out.ms.row (by have:=HOA.out.ml;have:=HM.out;omega);have z1:=(HA.out.keep HB4.out).c1;have z2:=(HA.out.keep HB4.out).c2;rw [e5] at z1;rw [e5m] at z2;have z3:=(HB4.out.cell (p:=⟨_,_,_⟩) hm5l).trans (hm5 p (by have:=HOA.out.ml;have:=HM.out;omega));have HNM5:=hQz (q0h ba oa p fb fbo _ _ mb mbo _ _ _ w4 (by have:=HOA.out.fl;have:=HM.out;omega) (by have:=HOA.out.ml;have:=HM.out;omega) HA.out.caps.2.1 HA.out.caps.2.2 (Nat.lt_of_lt_of_le HA.out.lt HB4.out.size) (Nat.lt_of_lt_of_le hm5l HB4.out.size) z1 z2 z3);have HPT5:=hQz (hf5 p (by have:=HOA.out.fl;have:=HM.out;omega));clear z1 z2 z3;go_wp2_with fail;refine HNM5.out.mono ?_;rintro e w5 ⟨rfl,hq5⟩;have HB5:=hQz (HB4.out.trans (hq5.mono HB4.out.size));have HX5:Hid (w5.heap[XB]? =_):=(hq5.block _ (q00 HX4.out)).trans HX4.out;have HY5:Hid (w5.heap[XB+1]? =_):=(hq5.block _ (q00 HY4.out)).trans HY4.out;clear hq5 HNM5;obtain ⟨w6,hw6⟩:∃ w6,(w5.setCell ⟨XB,0,none⟩ (.pointer (some ⟨fb,fbo+p*9,none⟩))).setCell ⟨XB,1,none⟩ (.bool (a.must[p]'(by have:=HOA.out.ml;have:=HM.out;omega)))=w6:=⟨_,rfl⟩;have HB6:Hid (Below w.heap.size w w6):=by show Below _ _ _;rw [← hw6];exact (HB5.out.setCell (p:=⟨XB,0,none⟩) (by show w.heap.size≤XB;omega) _).setCell (p:=⟨XB,1,none⟩) (by show w.heap.size≤XB;omega) _
        have HX6:Hid (w6.heap[XB]? =some (.cells #[.pointer (some ⟨fb,fbo+p*9,none⟩),.bool (a.must[p]'(by have:=HOA.out.ml;have:=HM.out;omega))] 195 (0,0))):=by show _=_;rw [← hw6];exact q06 HX5.out
        have HY6:Hid (w6.heap[XB+1]? =some (.cells #[.pointer (some ⟨bb,ob+3,none⟩),.bool false] 195 (0,0))):=by show _=_;rw [← hw6];exact (Below.heap_setCell _ _ _ _ (by show XB+1≠XB;omega)).trans ((Below.heap_setCell _ _ _ _ (by show XB+1≠XB;omega)).trans HY5.out)
        have u0:=cell_of_row _ _ 0 _ _ _ HX5.out;have u1:=cell_of_row _ _ 1 _ _ _ HX5.out;have v0:=q01 (j:=0) HX5.out;have v1:=q01 (j:=1) HX5.out;have HWq:=hQz hw6;clear hw6;go_upto_region 7 with fail
        try rw [HWq.out]
        clear HWq u0 u1 v0 v1;have s0:=cell_of_row _ _ 0 _ _ _ HX6.out;have s1:=cell_of_row _ _ 1 _ _ _ HX6.out;have s2:=cell_of_row _ _ 0 _ _ _ HY6.out;have s3:=cell_of_row _ _ 1 _ _ _ HY6.out;have HCL:=hQz (HC.out w6 (a.fields[p]'(by have:=HOA.out.fl;have:=HM.out;omega),a.must[p]'(by have:=HOA.out.ml;have:=HM.out;omega)) (b.rest,false) _ _ _ _ HB6.out (HPT5.out.keep HB6.out) (HBB.out.keep HB6.out).rest (.inr (List.getElem_mem _)) (.inl rfl));obtain ⟨G,hG⟩:∃ G,g (a.fields[p]'(by have:=HOA.out.fl;have:=HM.out;omega),a.must[p]'(by have:=HOA.out.ml;have:=HM.out;omega)) (b.rest,false)=G:=⟨_,rfl⟩;rw [hG] at HCL HST;clear hG
        cases G with
        | true=>
         go_wp2_with fail;refine HCL.out.mono ?_;rintro e w20 ⟨rfl,hq20⟩;have HB20:=hQz (HB6.out.trans (hq20.mono HB6.out.size));clear hq20 s0 s1 s2 s3;go_wp2_with fail;go_roundw
         case rel=>exact ⟨p+1,q,by omega,by omega,by first|rfl|go_num,by first|rfl|go_num,HB20,HST.out⟩
         case measure=>simp [intOf];omega
        | false=>
         go_wp2_with fail;refine HCL.out.mono ?_;rintro e w20 ⟨rfl,hq20⟩;have HB20:=hQz (HB6.out.trans (hq20.mono HB6.out.size));clear hq20 s0 s1 s2 s3;have HRF:Hid (false=R):=HST.out;go_wp2_with fail;go_ret;exact ⟨by rw [← HRF.out];rfl,HB20.out⟩
  · obtain rfl:p=M:=by omega
    have hpM1:¬ (p:Int)<(p:Int):=by omega
    have hpM2:(p:Int)≤(p:Int):=by omega
    have hp0:(0:Int)≤(p:Int):=by omega
    by_cases hqN:q<N
    · have hqN1:(q:Int)<(N:Int):=by omega
      have hqN2:(q:Int)≤(N:Int):=by omega
      have hq0:(0:Int)≤(q:Int):=by omega
      have hlq:¬ lc=q:=by omega
      have hzb:=zip_at HOB.out (p:=q) (by rw [HN.out];exact hqN);have hze:(zipO a).drop p=[]:=by have:=q0J HOA.out;rw [HM.out] at this;exact this
      have hQ:=HQ.out;rw [hzb,hze,show p-p+(N-q)=(N-q-1)+1 from by omega,mgF,← hze,show N-q-1=p-p+(N-(q+1)) from by omega] at hQ;have HST:=hQz hQ;have HSD:Hid (ahd [] (b.names.drop q)=1):=rfl;clear hzb hze hQ HQ hpM;by_cases hkp:kc=p
      · obtain rfl:p=kc:=hkp.symm;have hU1:=hQz (q03 ba oa);have hU2:=hQz (q03 bb ob);go_wp2_with fail;refine (hU1.out _).mono ?_;rintro e w1 ⟨rfl,hq1⟩;have HB1:=hQz (HB.out.trans (hq1.mono HB.out.size));clear hq1;go_wp2_with fail;refine (hU2.out _).mono ?_;rintro e w2 ⟨rfl,hq2⟩;have HB2:=hQz (HB1.out.trans (hq2.mono HB1.out.size));clear hq2 x0 y0;obtain ⟨XB,hXB⟩:∃ XB,w2.heap.size=XB:=⟨_,rfl⟩;obtain ⟨w3,hw3⟩:∃ w3,(w2.alloc (.cells #[.pointer (some ⟨ba,oa+3,none⟩),.bool false] 195)).alloc (.cells #[.pointer (some ⟨bb,ob+3,none⟩),.bool false] 195)=w3:=⟨_,rfl⟩;have hb3:Below w2.heap.size w2 w3:=by rw [← hw3];exact ((Below.refl _ w2).alloc (Nat.le_refl _) _).alloc (by simp) _
        have HB3:=hQz (HB2.out.trans (hb3.mono HB2.out.size));have hwX:w.heap.size≤XB:=by rw [← hXB];exact HB2.out.size
        have hX3:w3.heap[XB]? =some (.cells #[.pointer (some ⟨ba,oa+3,none⟩),.bool false] 195 (0,0)):=by rw [← hw3,← hXB];exact (Below.heap_alloc _ _ _ (by simp)).trans (World.alloc_heap_new w2 _)
        have hY3:w3.heap[XB+1]? =some (.cells #[.pointer (some ⟨bb,ob+3,none⟩),.bool false] 195 (0,0)):=by
         rw [← hw3,← hXB];have h:=World.alloc_heap_new (w2.alloc (.cells #[.pointer (some ⟨ba,oa+3,none⟩),.bool false] 195)) (.cells #[.pointer (some ⟨bb,ob+3,none⟩),.bool false] 195);rw [World.size_alloc] at h;exact h
        have HX3:=hQz hX3;have HY3:=hQz hY3;have HWq:=hQz hw3;have HBq:=hQz hXB;clear hw3 hXB hb3 hX3 hY3 hU1 hU2;go_upto_region 4 with fail
        try rw [HWq.out]
        try rw [HBq.out]
        clear HWq HBq;obtain ⟨x0,y0⟩:=HX.out w3 HB3.out;have Ax0:=fun d os=>cell_regrown x0 d os;have Ay0:=fun d os=>cell_regrown y0 d os;obtain ⟨lb,loff,rfl,hlb,hlr⟩:=HBB.out.nm.row (by rw [HN.out];omega);clear hlr
        have HAH:Hid (∀ (X:Option Addr) (Y:Nat) (d:Nat) (os:Array Obj),Calls Tryz.prog 166 #[.slice X 0 Y,.slice (some ⟨lb,loff+q,none⟩) (N-q) (lc-q)] (grow (redrawn w3 d) os) fun e w'=>e= .returned (.int .i64 (1))∧Below (grow (redrawn w3 d) os).heap.size (grow (redrawn w3 d) os) w'):=fun X Y d os=>by
         have h:=q0k X 0 Y _ (N-q) (lc-q) [] (b.names.drop q) (grow (redrawn w3 d) os) (⟨fun h0=>absurd h0 (Nat.lt_irrefl 0)⟩:KIn _ X []) (((HBB.out.nm.keep HB3.out).keep (below_regrown w3 d os)).drop (by rw [HN.out];exact hqN)) rfl (by rw [List.length_drop,HN.out]) (by omega) (by omega);rw [show ahd _ _=(1:Int) from HSD.out] at h;exact h
        refine wp_region_quiet_below (by kernel_rfl) (by kernel_rfl) ?_
        repeat (go_big_quiet_step (exact Calls.regrown_of (HAH.out _ _ _ _)))
        refine wpQuiet_nil ?_;intro w4 hw'
        have hbw9:Below w3.heap.size w3 w4:=by
         obtain ⟨⟨dq,osq⟩,rfl⟩:=hw';exact below_regrown w3 dq osq
        clear hw';have HB4:=hQz (HB3.out.trans (hbw9.mono HB3.out.size));have HX4:Hid (w4.heap[XB]? =_):=(hbw9.block _ (q00 HX3.out)).trans HX3.out;have HY4:Hid (w4.heap[XB+1]? =_):=(hbw9.block _ (q00 HY3.out)).trans HY3.out;clear hbw9 Ax0 Ay0 x0 y0 HAH;obtain ⟨eb,ebo,e5,hf5⟩:=HBB.out.fd (by have:=HOB.out.fl;have:=HN.out;omega);obtain ⟨nb,nbo,e5m,hm5l,hm5⟩:=HBB.out.ms.row (by have:=HOB.out.ml;have:=HN.out;omega);have z1:=(HBB.out.keep HB4.out).c1;have z2:=(HBB.out.keep HB4.out).c2;rw [e5] at z1;rw [e5m] at z2;have z3:=(HB4.out.cell (p:=⟨_,_,_⟩) hm5l).trans (hm5 q (by have:=HOB.out.ml;have:=HN.out;omega));have HNM5:=hQz (q0h bb ob q eb ebo _ _ nb nbo _ _ _ w4 (by have:=HOB.out.fl;have:=HN.out;omega) (by have:=HOB.out.ml;have:=HN.out;omega) HBB.out.caps.2.1 HBB.out.caps.2.2 (Nat.lt_of_lt_of_le HBB.out.lt HB4.out.size) (Nat.lt_of_lt_of_le hm5l HB4.out.size) z1 z2 z3);have HPT5:=hQz (hf5 q (by have:=HOB.out.fl;have:=HN.out;omega));clear z1 z2 z3;go_wp2_with fail;refine HNM5.out.mono ?_;rintro e w5 ⟨rfl,hq5⟩;have HB5:=hQz (HB4.out.trans (hq5.mono HB4.out.size));have HX5:Hid (w5.heap[XB]? =_):=(hq5.block _ (q00 HX4.out)).trans HX4.out;have HY5:Hid (w5.heap[XB+1]? =_):=(hq5.block _ (q00 HY4.out)).trans HY4.out;clear hq5 HNM5;obtain ⟨w6,hw6⟩:∃ w6,(w5.setCell ⟨XB+1,0,none⟩ (.pointer (some ⟨eb,ebo+q*9,none⟩))).setCell ⟨XB+1,1,none⟩ (.bool (b.must[q]'(by have:=HOB.out.ml;have:=HN.out;omega)))=w6:=⟨_,rfl⟩;have HB6:Hid (Below w.heap.size w w6):=by show Below _ _ _;rw [← hw6];exact (HB5.out.setCell (p:=⟨XB+1,0,none⟩) (by show w.heap.size≤XB+1;omega) _).setCell (p:=⟨XB+1,1,none⟩) (by show w.heap.size≤XB+1;omega) _
        have HX6:Hid (w6.heap[XB]? =some (.cells #[.pointer (some ⟨ba,oa+3,none⟩),.bool false] 195 (0,0))):=by show _=_;rw [← hw6];exact (Below.heap_setCell _ _ _ _ (by show XB≠XB+1;omega)).trans ((Below.heap_setCell _ _ _ _ (by show XB≠XB+1;omega)).trans HX5.out)
        have HY6:Hid (w6.heap[XB+1]? =some (.cells #[.pointer (some ⟨eb,ebo+q*9,none⟩),.bool (b.must[q]'(by have:=HOB.out.ml;have:=HN.out;omega))] 195 (0,0))):=by show _=_;rw [← hw6];exact q06 HY5.out
        have u0:=cell_of_row _ _ 0 _ _ _ HY5.out;have u1:=cell_of_row _ _ 1 _ _ _ HY5.out;have v0:=q01 (j:=0) HY5.out;have v1:=q01 (j:=1) HY5.out;have HWq:=hQz hw6;clear hw6;go_upto_region 10 with fail
        try rw [HWq.out]
        clear HWq u0 u1 v0 v1;have s0:=cell_of_row _ _ 0 _ _ _ HX6.out;have s1:=cell_of_row _ _ 1 _ _ _ HX6.out;have s2:=cell_of_row _ _ 0 _ _ _ HY6.out;have s3:=cell_of_row _ _ 1 _ _ _ HY6.out;have HCL:=hQz (HC.out w6 (a.rest,false) (b.fields[q]'(by have:=HOB.out.fl;have:=HN.out;omega),b.must[q]'(by have:=HOB.out.ml;have:=HN.out;omega)) _ _ _ _ HB6.out (HA.out.keep HB6.out).rest (HPT5.out.keep HB6.out) (.inl rfl) (.inr (List.getElem_mem _)));obtain ⟨G,hG⟩:∃ G,g (a.rest,false) (b.fields[q]'(by have:=HOB.out.fl;have:=HN.out;omega),b.must[q]'(by have:=HOB.out.ml;have:=HN.out;omega))=G:=⟨_,rfl⟩;rw [hG] at HCL HST;clear hG
        cases G with
        | true=>
         go_wp2_with fail;refine HCL.out.mono ?_;rintro e w20 ⟨rfl,hq20⟩;have HB20:=hQz (HB6.out.trans (hq20.mono HB6.out.size));clear hq20 s0 s1 s2 s3;go_wp2_with fail;go_roundw
         case rel=>exact ⟨p,q+1,by omega,by omega,by first|rfl|go_num,by first|rfl|go_num,HB20,HST.out⟩
         case measure=>simp [intOf];omega
        | false=>
         go_wp2_with fail;refine HCL.out.mono ?_;rintro e w20 ⟨rfl,hq20⟩;have HB20:=hQz (HB6.out.trans (hq20.mono HB6.out.size));clear hq20 s0 s1 s2 s3;have HRF:Hid (false=R):=HST.out;go_wp2_with fail;go_ret;exact ⟨by rw [← HRF.out];rfl,HB20.out⟩
      · have hU1:=hQz (q03 ba oa);have hU2:=hQz (q03 bb ob);go_wp2_with fail;refine (hU1.out _).mono ?_;rintro e w1 ⟨rfl,hq1⟩;have HB1:=hQz (HB.out.trans (hq1.mono HB.out.size));clear hq1;go_wp2_with fail;refine (hU2.out _).mono ?_;rintro e w2 ⟨rfl,hq2⟩;have HB2:=hQz (HB1.out.trans (hq2.mono HB1.out.size));clear hq2 x0 y0;obtain ⟨XB,hXB⟩:∃ XB,w2.heap.size=XB:=⟨_,rfl⟩;obtain ⟨w3,hw3⟩:∃ w3,(w2.alloc (.cells #[.pointer (some ⟨ba,oa+3,none⟩),.bool false] 195)).alloc (.cells #[.pointer (some ⟨bb,ob+3,none⟩),.bool false] 195)=w3:=⟨_,rfl⟩;have hb3:Below w2.heap.size w2 w3:=by rw [← hw3];exact ((Below.refl _ w2).alloc (Nat.le_refl _) _).alloc (by simp) _
        have HB3:=hQz (HB2.out.trans (hb3.mono HB2.out.size));have hwX:w.heap.size≤XB:=by rw [← hXB];exact HB2.out.size
        have hX3:w3.heap[XB]? =some (.cells #[.pointer (some ⟨ba,oa+3,none⟩),.bool false] 195 (0,0)):=by rw [← hw3,← hXB];exact (Below.heap_alloc _ _ _ (by simp)).trans (World.alloc_heap_new w2 _)
        have hY3:w3.heap[XB+1]? =some (.cells #[.pointer (some ⟨bb,ob+3,none⟩),.bool false] 195 (0,0)):=by
         rw [← hw3,← hXB];have h:=World.alloc_heap_new (w2.alloc (.cells #[.pointer (some ⟨ba,oa+3,none⟩),.bool false] 195)) (.cells #[.pointer (some ⟨bb,ob+3,none⟩),.bool false] 195);rw [World.size_alloc] at h;exact h
        have HX3:=hQz hX3;have HY3:=hQz hY3;have HWq:=hQz hw3;have HBq:=hQz hXB;clear hw3 hXB hb3 hX3 hY3 hU1 hU2;go_upto_region 4 with fail
        try rw [HWq.out]
        try rw [HBq.out]
        clear HWq HBq;obtain ⟨x0,y0⟩:=HX.out w3 HB3.out;have Ax0:=fun d os=>cell_regrown x0 d os;have Ay0:=fun d os=>cell_regrown y0 d os;obtain ⟨lb,loff,rfl,hlb,hlr⟩:=HBB.out.nm.row (by rw [HN.out];omega);clear hlr
        have HAH:Hid (∀ (X:Option Addr) (Y:Nat) (d:Nat) (os:Array Obj),Calls Tryz.prog 166 #[.slice X 0 Y,.slice (some ⟨lb,loff+q,none⟩) (N-q) (lc-q)] (grow (redrawn w3 d) os) fun e w'=>e= .returned (.int .i64 (1))∧Below (grow (redrawn w3 d) os).heap.size (grow (redrawn w3 d) os) w'):=fun X Y d os=>by
         have h:=q0k X 0 Y _ (N-q) (lc-q) [] (b.names.drop q) (grow (redrawn w3 d) os) (⟨fun h0=>absurd h0 (Nat.lt_irrefl 0)⟩:KIn _ X []) (((HBB.out.nm.keep HB3.out).keep (below_regrown w3 d os)).drop (by rw [HN.out];exact hqN)) rfl (by rw [List.length_drop,HN.out]) (by omega) (by omega);rw [show ahd _ _=(1:Int) from HSD.out] at h;exact h
        refine wp_region_quiet_below (by kernel_rfl) (by kernel_rfl) ?_
        repeat (go_big_quiet_step (exact Calls.regrown_of (HAH.out _ _ _ _)))
        refine wpQuiet_nil ?_;intro w4 hw'
        have hbw9:Below w3.heap.size w3 w4:=by
         obtain ⟨⟨dq,osq⟩,rfl⟩:=hw';exact below_regrown w3 dq osq
        clear hw';have HB4:=hQz (HB3.out.trans (hbw9.mono HB3.out.size));have HX4:Hid (w4.heap[XB]? =_):=(hbw9.block _ (q00 HX3.out)).trans HX3.out;have HY4:Hid (w4.heap[XB+1]? =_):=(hbw9.block _ (q00 HY3.out)).trans HY3.out;clear hbw9 Ax0 Ay0 x0 y0 HAH;obtain ⟨eb,ebo,e5,hf5⟩:=HBB.out.fd (by have:=HOB.out.fl;have:=HN.out;omega);obtain ⟨nb,nbo,e5m,hm5l,hm5⟩:=HBB.out.ms.row (by have:=HOB.out.ml;have:=HN.out;omega);have z1:=(HBB.out.keep HB4.out).c1;have z2:=(HBB.out.keep HB4.out).c2;rw [e5] at z1;rw [e5m] at z2;have z3:=(HB4.out.cell (p:=⟨_,_,_⟩) hm5l).trans (hm5 q (by have:=HOB.out.ml;have:=HN.out;omega));have HNM5:=hQz (q0h bb ob q eb ebo _ _ nb nbo _ _ _ w4 (by have:=HOB.out.fl;have:=HN.out;omega) (by have:=HOB.out.ml;have:=HN.out;omega) HBB.out.caps.2.1 HBB.out.caps.2.2 (Nat.lt_of_lt_of_le HBB.out.lt HB4.out.size) (Nat.lt_of_lt_of_le hm5l HB4.out.size) z1 z2 z3);have HPT5:=hQz (hf5 q (by have:=HOB.out.fl;have:=HN.out;omega));clear z1 z2 z3;go_wp2_with fail;refine HNM5.out.mono ?_;rintro e w5 ⟨rfl,hq5⟩;have HB5:=hQz (HB4.out.trans (hq5.mono HB4.out.size));have HX5:Hid (w5.heap[XB]? =_):=(hq5.block _ (q00 HX4.out)).trans HX4.out;have HY5:Hid (w5.heap[XB+1]? =_):=(hq5.block _ (q00 HY4.out)).trans HY4.out;clear hq5 HNM5;obtain ⟨w6,hw6⟩:∃ w6,(w5.setCell ⟨XB+1,0,none⟩ (.pointer (some ⟨eb,ebo+q*9,none⟩))).setCell ⟨XB+1,1,none⟩ (.bool (b.must[q]'(by have:=HOB.out.ml;have:=HN.out;omega)))=w6:=⟨_,rfl⟩;have HB6:Hid (Below w.heap.size w w6):=by show Below _ _ _;rw [← hw6];exact (HB5.out.setCell (p:=⟨XB+1,0,none⟩) (by show w.heap.size≤XB+1;omega) _).setCell (p:=⟨XB+1,1,none⟩) (by show w.heap.size≤XB+1;omega) _
        have HX6:Hid (w6.heap[XB]? =some (.cells #[.pointer (some ⟨ba,oa+3,none⟩),.bool false] 195 (0,0))):=by show _=_;rw [← hw6];exact (Below.heap_setCell _ _ _ _ (by show XB≠XB+1;omega)).trans ((Below.heap_setCell _ _ _ _ (by show XB≠XB+1;omega)).trans HX5.out)
        have HY6:Hid (w6.heap[XB+1]? =some (.cells #[.pointer (some ⟨eb,ebo+q*9,none⟩),.bool (b.must[q]'(by have:=HOB.out.ml;have:=HN.out;omega))] 195 (0,0))):=by show _=_;rw [← hw6];exact q06 HY5.out
        have u0:=cell_of_row _ _ 0 _ _ _ HY5.out;have u1:=cell_of_row _ _ 1 _ _ _ HY5.out;have v0:=q01 (j:=0) HY5.out;have v1:=q01 (j:=1) HY5.out;have HWq:=hQz hw6;clear hw6;go_upto_region 10 with fail
        try rw [HWq.out]
        clear HWq u0 u1 v0 v1;have s0:=cell_of_row _ _ 0 _ _ _ HX6.out;have s1:=cell_of_row _ _ 1 _ _ _ HX6.out;have s2:=cell_of_row _ _ 0 _ _ _ HY6.out;have s3:=cell_of_row _ _ 1 _ _ _ HY6.out;have HCL:=hQz (HC.out w6 (a.rest,false) (b.fields[q]'(by have:=HOB.out.fl;have:=HN.out;omega),b.must[q]'(by have:=HOB.out.ml;have:=HN.out;omega)) _ _ _ _ HB6.out (HA.out.keep HB6.out).rest (HPT5.out.keep HB6.out) (.inl rfl) (.inr (List.getElem_mem _)));obtain ⟨G,hG⟩:∃ G,g (a.rest,false) (b.fields[q]'(by have:=HOB.out.fl;have:=HN.out;omega),b.must[q]'(by have:=HOB.out.ml;have:=HN.out;omega))=G:=⟨_,rfl⟩;rw [hG] at HCL HST;clear hG
        cases G with
        | true=>
         go_wp2_with fail;refine HCL.out.mono ?_;rintro e w20 ⟨rfl,hq20⟩;have HB20:=hQz (HB6.out.trans (hq20.mono HB6.out.size));clear hq20 s0 s1 s2 s3;go_wp2_with fail;go_roundw
         case rel=>exact ⟨p,q+1,by omega,by omega,by first|rfl|go_num,by first|rfl|go_num,HB20,HST.out⟩
         case measure=>simp [intOf];omega
        | false=>
         go_wp2_with fail;refine HCL.out.mono ?_;rintro e w20 ⟨rfl,hq20⟩;have HB20:=hQz (HB6.out.trans (hq20.mono HB6.out.size));clear hq20 s0 s1 s2 s3;have HRF:Hid (false=R):=HST.out;go_wp2_with fail;go_ret;exact ⟨by rw [← HRF.out];rfl,HB20.out⟩
    · obtain rfl:q=N:=by omega
      have hqN1:¬ (q:Int)<(q:Int):=by omega
      have hze:(zipO a).drop p=[]:=by have:=q0J HOA.out;rw [HM.out] at this;exact this
      have hzf:(zipO b).drop q=[]:=by have:=q0J HOB.out;rw [HN.out] at this;exact this
      have HRT:Hid (true=R):=by
       have hQ:=HQ.out;rw [hze,hzf,show p-p+(q-q)=0 from by omega] at hQ;exact hQ
      clear hze hzf;go_wp2_with fail;go_ret;exact ⟨by rw [← HRT.out];rfl,HB.out⟩
end Go.Proofs.YtnokkmiaeacogaaGreat
