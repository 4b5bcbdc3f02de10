import Derived.Test.YtnokkmiaeacogaaGreatM31
import Derived.Test.YtnokkmiaeacogaaGreatM14
import Derived.Test.YtnokkmiaeacogaaGreatM29
set_option linter.unusedVariables false
set_option linter.unusedSimpArgs false
namespace Go.Proofs.YtnokkmiaeacogaaGreat
open Go.RowKit Go.Shelf Go.Sort
attribute [local go_sem] Oper.semAt_some
set_option maxRecDepth 100000
set_option maxHeartbeats 12800000
theorem flags_lie (ba oa bb ob:Nat) (w:World) (la:ba<w.heap.size) (lb:bb<w.heap.size) (n1 f1 t1 n2 f2 t2:Bool) (x1:w.cell? ⟨ba,oa+1,none⟩=some (.bool n1)) (x2:w.cell? ⟨ba,oa+2,none⟩=some (.bool f1)) (x3:w.cell? ⟨ba,oa+3,none⟩=some (.bool t1)) (y1:w.cell? ⟨bb,ob+1,none⟩=some (.bool n2)) (y2:w.cell? ⟨bb,ob+2,none⟩=some (.bool f2)) (y3:w.cell? ⟨bb,ob+3,none⟩=some (.bool t2)):Calls Tryz.prog 108 #[.agg #[.pointer (some ⟨ba,oa,none⟩),.pointer (some ⟨bb,ob,none⟩)]] w fun e w'=>e= .returned (.bool ((!n1||n2)&&((!f1||f2)&&(!t1||t2))))∧Below w.heap.size w w':=by
 obtain ⟨W0,hW0⟩:∃ W0,w.alloc (.cells #[.pointer (some ⟨ba,oa,none⟩),.pointer (some ⟨bb,ob,none⟩)] 100)=W0:=⟨_,rfl⟩;have HX:Hid (Bx2c w W0 w.heap.size (.pointer (some ⟨ba,oa,none⟩)) (.pointer (some ⟨bb,ob,none⟩))):=by rw [← hW0];exact q07 w _ _ _
 have p0:=HX.out.c0;have p1:=HX.out.c1;have x1:=(HX.out.below.cell (p:=⟨_,_,_⟩) la).trans x1;have x2:=(HX.out.below.cell (p:=⟨_,_,_⟩) la).trans x2;have x3:=(HX.out.below.cell (p:=⟨_,_,_⟩) la).trans x3;have y1:=(HX.out.below.cell (p:=⟨_,_,_⟩) lb).trans y1;have y2:=(HX.out.below.cell (p:=⟨_,_,_⟩) lb).trans y2;have y3:=(HX.out.below.cell (p:=⟨_,_,_⟩) lb).trans y3
 cases n1 with
 | false=>
  cases f1 with
  | false=>
   cases t1 with
   | false=>
    go_enter Tryz.func108,Tryz.ntmps108;go_wp2_with fail;go_ret;exact ⟨by first|rfl|simp,HX.out.below⟩
   | true=>
    cases t2 with
    | false=>
     go_enter Tryz.func108,Tryz.ntmps108;go_wp2_with fail;go_ret;exact ⟨by first|rfl|simp,HX.out.below⟩
    | true=>
     go_enter Tryz.func108,Tryz.ntmps108;go_wp2_with fail;go_ret;exact ⟨by first|rfl|simp,HX.out.below⟩
  | true=>
   cases f2 with
   | false=>
    go_enter Tryz.func108,Tryz.ntmps108;go_wp2_with fail;go_ret;exact ⟨by first|rfl|simp,HX.out.below⟩
   | true=>
    cases t1 with
    | false=>
     go_enter Tryz.func108,Tryz.ntmps108;go_wp2_with fail;go_ret;exact ⟨by first|rfl|simp,HX.out.below⟩
    | true=>
     cases t2 with
     | false=>
      go_enter Tryz.func108,Tryz.ntmps108;go_wp2_with fail;go_ret;exact ⟨by first|rfl|simp,HX.out.below⟩
     | true=>
      go_enter Tryz.func108,Tryz.ntmps108;go_wp2_with fail;go_ret;exact ⟨by first|rfl|simp,HX.out.below⟩
 | true=>
  cases n2 with
  | false=>
   go_enter Tryz.func108,Tryz.ntmps108;go_wp2_with fail;go_ret;exact ⟨by first|rfl|simp,HX.out.below⟩
  | true=>
   cases f1 with
   | false=>
    cases t1 with
    | false=>
     go_enter Tryz.func108,Tryz.ntmps108;go_wp2_with fail;go_ret;exact ⟨by first|rfl|simp,HX.out.below⟩
    | true=>
     cases t2 with
     | false=>
      go_enter Tryz.func108,Tryz.ntmps108;go_wp2_with fail;go_ret;exact ⟨by first|rfl|simp,HX.out.below⟩
     | true=>
      go_enter Tryz.func108,Tryz.ntmps108;go_wp2_with fail;go_ret;exact ⟨by first|rfl|simp,HX.out.below⟩
   | true=>
    cases f2 with
    | false=>
     go_enter Tryz.func108,Tryz.ntmps108;go_wp2_with fail;go_ret;exact ⟨by first|rfl|simp,HX.out.below⟩
    | true=>
     cases t1 with
     | false=>
      go_enter Tryz.func108,Tryz.ntmps108;go_wp2_with fail;go_ret;exact ⟨by first|rfl|simp,HX.out.below⟩
     | true=>
      cases t2 with
      | false=>
       go_enter Tryz.func108,Tryz.ntmps108;go_wp2_with fail;go_ret;exact ⟨by first|rfl|simp,HX.out.below⟩
      | true=>
       go_enter Tryz.func108,Tryz.ntmps108;go_wp2_with fail;go_ret;exact ⟨by first|rfl|simp,HX.out.below⟩
theorem flags_met (ba oa bb ob:Nat) (w:World) (la:ba<w.heap.size) (lb:bb<w.heap.size) (n1 f1 t1 n2 f2 t2:Bool) (x1:w.cell? ⟨ba,oa+1,none⟩=some (.bool n1)) (x2:w.cell? ⟨ba,oa+2,none⟩=some (.bool f1)) (x3:w.cell? ⟨ba,oa+3,none⟩=some (.bool t1)) (y1:w.cell? ⟨bb,ob+1,none⟩=some (.bool n2)) (y2:w.cell? ⟨bb,ob+2,none⟩=some (.bool f2)) (y3:w.cell? ⟨bb,ob+3,none⟩=some (.bool t2)):Calls Tryz.prog 114 #[.agg #[.pointer (some ⟨ba,oa,none⟩),.pointer (some ⟨bb,ob,none⟩)]] w fun e w'=>e= .returned (.bool ((n1&&n2)||((f1&&f2)||(t1&&t2))))∧Below w.heap.size w w':=by
 obtain ⟨W0,hW0⟩:∃ W0,w.alloc (.cells #[.pointer (some ⟨ba,oa,none⟩),.pointer (some ⟨bb,ob,none⟩)] 100)=W0:=⟨_,rfl⟩;have HX:Hid (Bx2c w W0 w.heap.size (.pointer (some ⟨ba,oa,none⟩)) (.pointer (some ⟨bb,ob,none⟩))):=by rw [← hW0];exact q07 w _ _ _
 have p0:=HX.out.c0;have p1:=HX.out.c1;have x1:=(HX.out.below.cell (p:=⟨_,_,_⟩) la).trans x1;have x2:=(HX.out.below.cell (p:=⟨_,_,_⟩) la).trans x2;have x3:=(HX.out.below.cell (p:=⟨_,_,_⟩) la).trans x3;have y1:=(HX.out.below.cell (p:=⟨_,_,_⟩) lb).trans y1;have y2:=(HX.out.below.cell (p:=⟨_,_,_⟩) lb).trans y2;have y3:=(HX.out.below.cell (p:=⟨_,_,_⟩) lb).trans y3
 cases n1 with
 | false=>
  cases f1 with
  | false=>
   cases t1 with
   | false=>
    go_enter Tryz.func114,Tryz.ntmps114;go_wp2_with fail;go_ret;exact ⟨by first|rfl|simp,HX.out.below⟩
   | true=>
    cases t2 with
    | false=>
     go_enter Tryz.func114,Tryz.ntmps114;go_wp2_with fail;go_ret;exact ⟨by first|rfl|simp,HX.out.below⟩
    | true=>
     go_enter Tryz.func114,Tryz.ntmps114;go_wp2_with fail;go_ret;exact ⟨by first|rfl|simp,HX.out.below⟩
  | true=>
   cases f2 with
   | false=>
    cases t1 with
    | false=>
     go_enter Tryz.func114,Tryz.ntmps114;go_wp2_with fail;go_ret;exact ⟨by first|rfl|simp,HX.out.below⟩
    | true=>
     cases t2 with
     | false=>
      go_enter Tryz.func114,Tryz.ntmps114;go_wp2_with fail;go_ret;exact ⟨by first|rfl|simp,HX.out.below⟩
     | true=>
      go_enter Tryz.func114,Tryz.ntmps114;go_wp2_with fail;go_ret;exact ⟨by first|rfl|simp,HX.out.below⟩
   | true=>
    go_enter Tryz.func114,Tryz.ntmps114;go_wp2_with fail;go_ret;exact ⟨by first|rfl|simp,HX.out.below⟩
 | true=>
  cases n2 with
  | false=>
   cases f1 with
   | false=>
    cases t1 with
    | false=>
     go_enter Tryz.func114,Tryz.ntmps114;go_wp2_with fail;go_ret;exact ⟨by first|rfl|simp,HX.out.below⟩
    | true=>
     cases t2 with
     | false=>
      go_enter Tryz.func114,Tryz.ntmps114;go_wp2_with fail;go_ret;exact ⟨by first|rfl|simp,HX.out.below⟩
     | true=>
      go_enter Tryz.func114,Tryz.ntmps114;go_wp2_with fail;go_ret;exact ⟨by first|rfl|simp,HX.out.below⟩
   | true=>
    cases f2 with
    | false=>
     cases t1 with
     | false=>
      go_enter Tryz.func114,Tryz.ntmps114;go_wp2_with fail;go_ret;exact ⟨by first|rfl|simp,HX.out.below⟩
     | true=>
      cases t2 with
      | false=>
       go_enter Tryz.func114,Tryz.ntmps114;go_wp2_with fail;go_ret;exact ⟨by first|rfl|simp,HX.out.below⟩
      | true=>
       go_enter Tryz.func114,Tryz.ntmps114;go_wp2_with fail;go_ret;exact ⟨by first|rfl|simp,HX.out.below⟩
    | true=>
     go_enter Tryz.func114,Tryz.ntmps114;go_wp2_with fail;go_ret;exact ⟨by first|rfl|simp,HX.out.below⟩
  | true=>
   go_enter Tryz.func114,Tryz.ntmps114;go_wp2_with fail;go_ret;exact ⟨by first|rfl|simp,HX.out.below⟩
theorem nums_lie_none (ba oa bb ob:Nat) (w:World) (la:ba<w.heap.size) (no:Option Addr) (nc:Nat) (x4:w.cell? ⟨ba,oa+4,none⟩=some (.slice no 0 nc)):Calls Tryz.prog 109 #[.agg #[.pointer (some ⟨ba,oa,none⟩),.pointer (some ⟨bb,ob,none⟩)]] w fun e w'=>e= .returned (.bool true)∧Below w.heap.size w w':=by
 obtain ⟨W0,hW0⟩:∃ W0,w.alloc (.cells #[.pointer (some ⟨ba,oa,none⟩),.pointer (some ⟨bb,ob,none⟩)] 100)=W0:=⟨_,rfl⟩;have HX:Hid (Bx2c w W0 w.heap.size (.pointer (some ⟨ba,oa,none⟩)) (.pointer (some ⟨bb,ob,none⟩))):=by rw [← hW0];exact q07 w _ _ _
 have p0:=HX.out.c0;have p1:=HX.out.c1;have x4:=(HX.out.below.cell (p:=⟨_,_,_⟩) la).trans x4;have Ap0:=fun d os=>cell_regrown p0 d os;have Ap1:=fun d os=>cell_regrown p1 d os;have Ax4:=fun d os=>cell_regrown x4 d os;go_enter Tryz.func109,Tryz.ntmps109;go_wp2_with fail;refine wp_region_quiet_below (by kernel_rfl) (by kernel_rfl) ?_
 repeat (go_big_quiet_step (fail))
 refine wpQuiet_nil ?_;intro w9 hw'
 have hbw9:Below W0.heap.size W0 w9:=by
  obtain ⟨⟨dq,osq⟩,rfl⟩:=hw';exact below_regrown W0 dq osq
 clear hw';have HX9:=hQz (HX.out.keep hbw9);clear hbw9 Ap0 p0 Ap1 p1 Ax4 x4;go_wp2_with fail;go_ret;exact ⟨rfl,HX9.out.below⟩
theorem nums_lie_out (ba oa bb ob:Nat) (w:World) (la:ba<w.heap.size) (lb:bb<w.heap.size) (no:Option Addr) (M nc:Nat) (qo:Option Addr) (qc:Nat) (hM:0<M) (x4:w.cell? ⟨ba,oa+4,none⟩=some (.slice no M nc)) (y4:w.cell? ⟨bb,ob+4,none⟩=some (.slice qo 0 qc)):Calls Tryz.prog 109 #[.agg #[.pointer (some ⟨ba,oa,none⟩),.pointer (some ⟨bb,ob,none⟩)]] w fun e w'=>e= .returned (.bool false)∧Below w.heap.size w w':=by
 obtain ⟨W0,hW0⟩:∃ W0,w.alloc (.cells #[.pointer (some ⟨ba,oa,none⟩),.pointer (some ⟨bb,ob,none⟩)] 100)=W0:=⟨_,rfl⟩;have HX:Hid (Bx2c w W0 w.heap.size (.pointer (some ⟨ba,oa,none⟩)) (.pointer (some ⟨bb,ob,none⟩))):=by rw [← hW0];exact q07 w _ _ _
 have p0:=HX.out.c0;have p1:=HX.out.c1;have x4:=(HX.out.below.cell (p:=⟨_,_,_⟩) la).trans x4;have y4:=(HX.out.below.cell (p:=⟨_,_,_⟩) lb).trans y4;have hm1:((M:Int)==0)=false:=by simp;omega
 have hm2:(M==0)=false:=by simp;omega
 have Ap0:=fun d os=>cell_regrown p0 d os;have Ap1:=fun d os=>cell_regrown p1 d os;have Ax4:=fun d os=>cell_regrown x4 d os;have Ay4:=fun d os=>cell_regrown y4 d os;go_enter Tryz.func109,Tryz.ntmps109;go_wp2_with fail;refine wp_region_quiet_below (by kernel_rfl) (by kernel_rfl) ?_
 repeat (go_big_quiet_step (fail))
 refine wpQuiet_nil ?_;intro w9 hw'
 have hbw9:Below W0.heap.size W0 w9:=by
  obtain ⟨⟨dq,osq⟩,rfl⟩:=hw';exact below_regrown W0 dq osq
 clear hw';have HX9:=hQz (HX.out.keep hbw9);clear hbw9 Ap0 p0 Ap1 p1 Ax4 x4 Ay4 y4;go_wp2_with fail;go_ret;exact ⟨rfl,HX9.out.below⟩
theorem nums_lie_both (ba oa bb ob:Nat) (w:World) (la:ba<w.heap.size) (lb:bb<w.heap.size) (sb so qb qo M nc N qc:Nat) (hM:0<M) (hN:0<N) (lsb:sb<w.heap.size) (lqb:qb<w.heap.size) (s1 s2 q1 q2:ByteArray) (r:Bool) (x4:w.cell? ⟨ba,oa+4,none⟩=some (.slice (some ⟨sb,so,none⟩) M nc)) (y4:w.cell? ⟨bb,ob+4,none⟩=some (.slice (some ⟨qb,qo,none⟩) N qc))
 (e1:w.cell? ⟨sb,so,none⟩=some (.string s1)) (e2:w.cell? ⟨sb,so+1,none⟩=some (.string s2)) (g1:w.cell? ⟨qb,qo,none⟩=some (.string q1)) (g2:w.cell? ⟨qb,qo+1,none⟩=some (.string q2))
 (HC:Hid (∀ u,Calls Tryz.prog 133 #[.agg #[.string s1,.string s2],.agg #[.string q1,.string q2]] u fun e w'=>e= .returned (.bool r)∧Below u.heap.size u w')):Calls Tryz.prog 109 #[.agg #[.pointer (some ⟨ba,oa,none⟩),.pointer (some ⟨bb,ob,none⟩)]] w fun e w'=>e= .returned (.bool r)∧Below w.heap.size w w':=by
 obtain ⟨W0,hW0⟩:∃ W0,w.alloc (.cells #[.pointer (some ⟨ba,oa,none⟩),.pointer (some ⟨bb,ob,none⟩)] 100)=W0:=⟨_,rfl⟩;have HX:Hid (Bx2c w W0 w.heap.size (.pointer (some ⟨ba,oa,none⟩)) (.pointer (some ⟨bb,ob,none⟩))):=by rw [← hW0];exact q07 w _ _ _
 have p0:=HX.out.c0;have p1:=HX.out.c1;have x4:=(HX.out.below.cell (p:=⟨_,_,_⟩) la).trans x4;have y4:=(HX.out.below.cell (p:=⟨_,_,_⟩) lb).trans y4;have e1:=(HX.out.below.cell (p:=⟨_,_,_⟩) lsb).trans e1;have e2:=(HX.out.below.cell (p:=⟨_,_,_⟩) lsb).trans e2;have g1:=(HX.out.below.cell (p:=⟨_,_,_⟩) lqb).trans g1;have g2:=(HX.out.below.cell (p:=⟨_,_,_⟩) lqb).trans g2;have hm1:((M:Int)==0)=false:=by simp;omega
 have hm2:(M==0)=false:=by simp;omega
 have hm3:(0:Int)<(M:Int):=by omega
 have hn3:(0:Int)<(N:Int):=by omega
 have hn4:decide ((0:Int)<(N:Int))=true:=decide_eq_true hn3;have hn5:decide (0<N)=true:=decide_eq_true hN;have HCC:=hQz (fun (d:Nat) (os:Array Obj)=>HC.out (grow (redrawn W0 d) os));have Ap0:=fun d os=>cell_regrown p0 d os;have Ap1:=fun d os=>cell_regrown p1 d os;have Ax4:=fun d os=>cell_regrown x4 d os;have Ay4:=fun d os=>cell_regrown y4 d os;have Ae1:=fun d os=>cell_regrown e1 d os;have Ae2:=fun d os=>cell_regrown e2 d os;have Ag1:=fun d os=>cell_regrown g1 d os;have Ag2:=fun d os=>cell_regrown g2 d os;go_enter Tryz.func109,Tryz.ntmps109;go_wp2_with fail;refine wp_region_quiet_below (by kernel_rfl) (by kernel_rfl) ?_
 repeat (go_big_quiet_step (exact Calls.regrown_of (HCC.out _ _)))
 refine wpQuiet_nil ?_;intro w9 hw'
 have hbw9:Below W0.heap.size W0 w9:=by
  obtain ⟨⟨dq,osq⟩,rfl⟩:=hw';exact below_regrown W0 dq osq
 clear hw';have HX9:=hQz (HX.out.keep hbw9);clear hbw9 Ap0 p0 Ap1 p1 Ax4 x4 Ay4 y4 Ae1 e1 Ae2 e2 Ag1 g1 Ag2 g2;go_wp2_with fail;go_ret;exact ⟨rfl,HX9.out.below⟩
theorem w_rHas (ko:Option Addr) (K cap:Nat) (ks:List ByteArray) (s:ByteArray) (w:World) (hk:KIn w ko ks) (hK:ks.length=K) (hc:K≤cap) (hK2:K≤140737488355328):
 Calls Tryz.prog 101 #[.slice ko K cap,.string s] w fun e w'=>e= .returned (.bool (hasK ks s))∧w'=w:=by
 have HA:=hQz hk;have HM:=hQz hK;obtain ⟨R,hR⟩:∃ R,hasK ks s=R:=⟨_,rfl⟩;have HR:Hid (R=ks.any fun k=>eqS k s):=hR.symm;rw [hR];clear hk hK hR;go_enter Tryz.func101,Tryz.ntmps101;go_wp2_with fail
 go_loopw [5] (fun i wr=>∃ k:Nat,k≤K∧i= .int .i64 (k:Int)∧wr=w∧Hid ((ks.take k).any (fun k=>eqS k s)=false)) (fun i _=>K-(intOf i).toNat)
 case atStart=>exact ⟨0,Nat.zero_le _,rfl,rfl,rfl⟩
 case round=>
  obtain ⟨k,hk,rfl,rfl,HQ⟩:=hrel;by_cases hlt:k<K
  · have hl1:(k:Int)<(K:Int):=by omega
    have hl0:(0:Int)≤(k:Int):=by omega
    have hka:k<ks.length:=by rw [HM.out];exact hlt
    obtain ⟨b,off,hko,hbl,hrow⟩:=HA.out.row (by omega);subst hko;have c0:=hrow k hka;have eg:ks.getD k ByteArray.empty=ks[k]:=by simp [List.getD,hka]
    rw [eg] at c0;have HU:=hQz (any_up (f:=fun k=>eqS k s) hka);have HY:=hQz (fun hh=>any_yes (f:=fun k=>eqS k s) hka hh);have he:eqS ks[k] s=(ks[k].toList==s.toList):=rfl;simp only [he] at HU HY;generalize ks[k]=x at *;clear hrow hbl hka eg he
    cases hx:(x.toList==s.toList) with
    | true=>
     have HF:Hid (R=true):=by show _=_;rw [HR.out];exact HY.out hx
     clear HU HY HQ;go_wp2_with fail;go_ret;exact ⟨by rw [HF.out];rfl,rfl⟩
    | false=>
     have HN:Hid ((ks.take (k+1)).any (fun k=>eqS k s)=false):=by show _=_;rw [HU.out,HQ.out,hx];rfl
     clear HU HY HQ;go_wp2_with fail;go_roundw
     case rel=>exact ⟨k+1,hlt,by go_num,by first|trivial|rfl,HN⟩
     case measure=>simp [intOf];omega
  · have hl1:¬ (k:Int)<(K:Int):=by omega
    have HF:Hid (R=false):=by
     show _=_;have e:=HQ.out;rw [List.take_of_length_le (by rw [HM.out];omega)] at e;rw [HR.out,e]
    clear HQ;go_wp2_with fail;go_ret;exact ⟨by rw [HF.out];rfl,rfl⟩
structure Bx1 (w u:World) (xs:Array Value):Prop where
 below:Below w.heap.size w u
 one:∀ j,u.cell? ⟨w.heap.size,j,none⟩=xs[j]?
 lt:w.heap.size<u.heap.size
theorem Bx1.keep {w u u':World} {xs:Array Value} (x:Bx1 w u xs) (hb:Below u.heap.size u u'):Bx1 w u' xs:=
 ⟨x.below.trans (hb.mono x.below.size),fun j=>(hb.cell (p:=⟨_,_,_⟩) x.lt).trans (x.one j),Nat.lt_of_lt_of_le x.lt hb.size⟩
theorem bx1_new (w:World) (xs:Array Value) (t:TypeId):Bx1 w (w.alloc (.cells xs t)) xs:=
 ⟨(Below.refl _ _).alloc (Nat.le_refl _) _,fun j=>cell_of_row _ _ j xs t (0,0) (World.alloc_heap_new w _),by simp⟩
end Go.Proofs.YtnokkmiaeacogaaGreat
