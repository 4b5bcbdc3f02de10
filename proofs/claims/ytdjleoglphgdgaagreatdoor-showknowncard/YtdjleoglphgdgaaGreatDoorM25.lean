import Derived.Test.YtdjleoglphgdgaaGreatDoorM24
import Derived.Shelf.Strings.SlTrimAscii
import Derived.Deep.QuietTactic
import Derived.BigQuiet
set_option linter.unusedVariables false
set_option linter.unusedSimpArgs false
namespace Go.Proofs.YtdjleoglphgdgaaGreatDoor
open Go.RowKit
set_option maxRecDepth 100000
set_option maxHeartbeats 12800000
theorem q0d (s:ByteArray):s.data.toList.length=s.size:=by rw [Array.length_toList];rfl
theorem q1V (s:ByteArray) (a b:Nat) (hb:b≤s.size):(s.extract a b).data.toList=cut s.data.toList a b:=by
 rw [Lib.extract_data];rfl
def tokV (t:Tok):Value:= .agg #[.int .i64 (t.kind:Int),.int .i64 (t.at_:Int),.int .i64 (t.fin:Int),.string ⟨t.text.toArray⟩]
def TokR (t:Tok) (w w':World) (e:Ending):Prop:=e= .returned (.tuple #[tokV t,.int .i64 (t.err:Int)])∧Below w.heap.size w w'
theorem q0v {s:ByteArray} {p:Nat} (h:p<s.size):s.data.toList.getD p 0=s[p]:=by
 rw [← byte_eq s p h];have:p<s.data.toList.length:=by rw [q0d];exact h
 rw [List.getD,List.getElem?_eq_getElem this];rfl
theorem q0l (w:World) (B:Nat) (t:TypeId) (y0 y1 y2 y3 a0 a1 a2 a3:Value) (h:w.heap[B]? =some (.cells #[y0,y1,y2,y3] t (0,0))) (wz:World) (hz:wz=(((w.setCell ⟨B,0,none⟩ a0).setCell ⟨B,1,none⟩ a1).setCell ⟨B,2,none⟩ a2).setCell ⟨B,3,none⟩ a3):
 wz.heap[B]? =some (.cells #[a0,a1,a2,a3] t (0,0))∧(∀ b,b≠B→wz.heap[b]? =w.heap[b]?)∧wz.heap.size=w.heap.size∧∀ n,n≤B→Below n w wz:=by
 subst hz;refine ⟨?_,fun b hb=> ?_,by simp,fun n hn=> ?_⟩
 · have e:∀ (u:World) (c:Array Value) (i:Nat) (v:Value),u.heap[B]? =some (.cells c t (0,0))→(u.setCell ⟨B,i,none⟩ v).heap[B]? =some (.cells (c.setIfInBounds i v) t (0,0)):=fun u c i v hu=>by
    show (u.heap.modify B _)[B]? =_;rw [Array.getElem?_modify,if_pos rfl,hu];rfl
   exact e _ _ 3 a3 (e _ _ 2 a2 (e _ _ 1 a1 (e _ _ 0 a0 h)))
 · rw [Below.heap_setCell _ _ _ _ hb,Below.heap_setCell _ _ _ _ hb,Below.heap_setCell _ _ _ _ hb,Below.heap_setCell _ _ _ _ hb]
 · exact ((((Below.refl n w).setCell (p:=⟨B,0,none⟩) hn _).setCell (p:=⟨B,1,none⟩) hn _).setCell (p:=⟨B,2,none⟩) hn _).setCell (p:=⟨B,3,none⟩) hn _
theorem q0f {w:World} {B j:Nat} {cs:Array Value} {t:TypeId} (h:w.heap[B]? =some (.cells cs t (0,0))):w.frozen? ⟨B,j,none⟩=false:=by simp [World.frozen?,h]
theorem q0y {w w':World} {n:Nat} (hb:Below n w w') {b:Nat} {o:Obj} (hlt:b<n) (h:w.heap[b]? =some o):w'.heap[b]? =some o:=(hb.block b hlt).trans h
def q0c:Obj:= .cells #[.int .i64 0,.int .i64 0,.int .i64 0,.string ⟨#[]⟩] 82
theorem tbox1 {w w1:World} (hb:Below (w.alloc q0c).heap.size (w.alloc q0c) w1):w1.heap[w.heap.size]? =some (.cells #[.int .i64 0,.int .i64 0,.int .i64 0,.string ⟨#[]⟩] 82 (0,0))∧Below w.heap.size w w1:=
 ⟨q0y hb (by simp) (heap_alloc_new w _),(q0a w q0c).trans (hb.mono (by simp))⟩
theorem q06 {w:World} {B:Nat} {t:TypeId} {y0 y1 y2 y3:Value} (h:w.heap[B]? =some (.cells #[y0,y1,y2,y3] t (0,0))):
 w.cell? ⟨B,0,none⟩=some y0∧w.cell? ⟨B,1,none⟩=some y1∧w.cell? ⟨B,2,none⟩=some y2∧w.cell? ⟨B,3,none⟩=some y3∧w.frozen? ⟨B,0,none⟩=false∧w.frozen? ⟨B,1,none⟩=false∧w.frozen? ⟨B,2,none⟩=false∧w.frozen? ⟨B,3,none⟩=false:=by
 refine ⟨?_,?_,?_,?_,q0f h,q0f h,q0f h,q0f h⟩ <;> rw [cell_of_row _ _ _ _ _ _ h] <;> rfl
theorem w_wBlank (c:UInt8) (w:World):
 Calls Tryz.prog 95 #[.int .u8 ((c.toNat:Nat):Int)] w fun e w'=>e= .returned (.bool (blB c))∧w'=w:=by
 have ht:∀ b,blB c=b→blB c=b:=fun _ h=>h;unfold blB at ht;have hlt:=c.toNat_lt;obtain ⟨x,hx⟩:∃ x:Int,((c.toNat:Nat):Int)=x:=⟨_,rfl⟩;rw [hx];have hcs:(x=32)∨(x=9)∨(x=10)∨(x=13)∨(¬ x=32∧¬ x=9∧¬ x=10∧¬ x=13):=by omega
 rcases hcs with q0|q0|q0|q0|⟨q0,q1,q2,q3⟩
 · have HT:blB c=true:=by unfold blB;exact decide_eq_true (by omega)
   rw [HT];subst q0;clear HT ht hx hlt;go_enter Tryz.func95,Tryz.ntmps95;go_wp2_with fail;go_ret;exact ⟨by first|rfl|simp [*],rfl⟩
 · have HT:blB c=true:=by unfold blB;exact decide_eq_true (by omega)
   rw [HT];subst q0;clear HT ht hx hlt;go_enter Tryz.func95,Tryz.ntmps95;go_wp2_with fail;go_ret;exact ⟨by first|rfl|simp [*],rfl⟩
 · have HT:blB c=true:=by unfold blB;exact decide_eq_true (by omega)
   rw [HT];subst q0;clear HT ht hx hlt;go_enter Tryz.func95,Tryz.ntmps95;go_wp2_with fail;go_ret;exact ⟨by first|rfl|simp [*],rfl⟩
 · have HT:blB c=true:=by unfold blB;exact decide_eq_true (by omega)
   rw [HT];subst q0;clear HT ht hx hlt;go_enter Tryz.func95,Tryz.ntmps95;go_wp2_with fail;go_ret;exact ⟨by first|rfl|simp [*],rfl⟩
 · have HT:blB c=false:=by unfold blB;exact decide_eq_false (by omega)
   rw [HT];clear HT ht hx hlt;go_enter Tryz.func95,Tryz.ntmps95;go_wp2_with fail;go_ret;exact ⟨by first|rfl|simp [*],rfl⟩
theorem q1d (c:UInt8) (w:World):
 Calls Tryz.prog 101 #[.int .u8 ((c.toNat:Nat):Int)] w fun e w'=>e= .returned (.bool (dgB c))∧w'=w:=by
 have ht:∀ b,dgB c=b→dgB c=b:=fun _ h=>h;unfold dgB at ht;have hlt:=c.toNat_lt;obtain ⟨x,hx⟩:∃ x:Int,((c.toNat:Nat):Int)=x:=⟨_,rfl⟩;rw [hx];have hcs:(48≤x∧x≤57)∨(48≤x∧¬ x≤57)∨(¬ 48≤x∧x≤57):=by omega
 rcases hcs with ⟨q0,q1⟩|⟨q0,q1⟩|⟨q0,q1⟩
 · have HT:dgB c=true:=by unfold dgB;exact decide_eq_true (by omega)
   rw [HT];clear HT ht hx hlt;go_enter Tryz.func101,Tryz.ntmps101;go_wp2_with fail;go_ret;exact ⟨by first|rfl|simp [*],rfl⟩
 · have HT:dgB c=false:=by unfold dgB;exact decide_eq_false (by omega)
   rw [HT];clear HT ht hx hlt;go_enter Tryz.func101,Tryz.ntmps101;go_wp2_with fail;go_ret;exact ⟨by first|rfl|simp [*],rfl⟩
 · have HT:dgB c=false:=by unfold dgB;exact decide_eq_false (by omega)
   rw [HT];clear HT ht hx hlt;go_enter Tryz.func101,Tryz.ntmps101;go_wp2_with fail;go_ret;exact ⟨by first|rfl|simp [*],rfl⟩
theorem q0Y (c:UInt8) (w:World):
 Calls Tryz.prog 97 #[.int .u8 ((c.toNat:Nat):Int)] w fun e w'=>e= .returned (.bool (leB c))∧w'=w:=by
 have ht:∀ b,leB c=b→leB c=b:=fun _ h=>h;unfold leB at ht;have hlt:=c.toNat_lt;obtain ⟨x,hx⟩:∃ x:Int,((c.toNat:Nat):Int)=x:=⟨_,rfl⟩;rw [hx];have hcs:(97≤x∧x≤122)∨(97≤x∧¬ x≤122∧65≤x∧¬ x≤90∧¬ x=95)∨(¬ 97≤x∧65≤x∧x≤90)∨(¬ 97≤x∧65≤x∧¬ x≤90∧x=95)∨(¬ 97≤x∧65≤x∧¬ x≤90∧¬ x=95)∨(¬ 97≤x∧¬ 65≤x∧¬ x=95):=by omega
 rcases hcs with ⟨q0,q1⟩|⟨q0,q1,q2,q3,q4⟩|⟨q0,q1,q2⟩|⟨q0,q1,q2,q3⟩|⟨q0,q1,q2,q3⟩|⟨q0,q1,q2⟩
 · have HT:leB c=true:=by unfold leB;exact decide_eq_true (by omega)
   rw [HT];clear HT ht hx hlt;go_enter Tryz.func97,Tryz.ntmps97;go_wp2_with fail;go_ret;exact ⟨by first|rfl|simp [*],rfl⟩
 · have HT:leB c=false:=by unfold leB;exact decide_eq_false (by omega)
   rw [HT];clear HT ht hx hlt;go_enter Tryz.func97,Tryz.ntmps97;go_wp2_with fail;go_ret;exact ⟨by first|rfl|simp [*],rfl⟩
 · have HT:leB c=true:=by unfold leB;exact decide_eq_true (by omega)
   rw [HT];clear HT ht hx hlt;go_enter Tryz.func97,Tryz.ntmps97;go_wp2_with fail;go_ret;exact ⟨by first|rfl|simp [*],rfl⟩
 · have HT:leB c=true:=by unfold leB;exact decide_eq_true (by omega)
   rw [HT];subst q3;clear HT ht hx hlt q0 q1 q2;go_enter Tryz.func97,Tryz.ntmps97;go_wp2_with fail;go_ret;exact ⟨by first|rfl|simp [*],rfl⟩
 · have HT:leB c=false:=by unfold leB;exact decide_eq_false (by omega)
   rw [HT];clear HT ht hx hlt;go_enter Tryz.func97,Tryz.ntmps97;go_wp2_with fail;go_ret;exact ⟨by first|rfl|simp [*],rfl⟩
 · have HT:leB c=false:=by unfold leB;exact decide_eq_false (by omega)
   rw [HT];clear HT ht hx hlt;go_enter Tryz.func97,Tryz.ntmps97;go_wp2_with fail;go_ret;exact ⟨by first|rfl|simp [*],rfl⟩
theorem w_wRemark (c:UInt8) (w:World):
 Calls Tryz.prog 96 #[.int .u8 ((c.toNat:Nat):Int)] w fun e w'=>e= .returned (.bool (rmB c))∧w'=w:=by
 have ht:∀ b,rmB c=b→rmB c=b:=fun _ h=>h;unfold rmB at ht;have hlt:=c.toNat_lt;obtain ⟨x,hx⟩:∃ x:Int,((c.toNat:Nat):Int)=x:=⟨_,rfl⟩;rw [hx];have hcs:(x=10)∨(¬ x=10):=by omega
 rcases hcs with q0|q0
 · have HT:rmB c=false:=by unfold rmB;exact decide_eq_false (by omega)
   rw [HT];subst q0;clear HT ht hx hlt;go_enter Tryz.func96,Tryz.ntmps96;go_wp2_with fail;go_ret;exact ⟨by first|rfl|simp [*],rfl⟩
 · have HT:rmB c=true:=by unfold rmB;exact decide_eq_true (by omega)
   rw [HT];clear HT ht hx hlt;go_enter Tryz.func96,Tryz.ntmps96;go_wp2_with fail;go_ret;exact ⟨by first|rfl|simp [*],rfl⟩
theorem w_wPiece (c:UInt8) (w:World):
 Calls Tryz.prog 189 #[.int .u8 ((c.toNat:Nat):Int)] w fun e w'=>e= .returned (.bool (piB c))∧w'=w:=by
 have ht:∀ b,piB c=b→piB c=b:=fun _ h=>h;unfold piB at ht;have hlt:=c.toNat_lt;obtain ⟨x,hx⟩:∃ x:Int,((c.toNat:Nat):Int)=x:=⟨_,rfl⟩;rw [hx];have hcs:(x=34)∨(x=92)∨(¬ x=34∧¬ x=92):=by omega
 rcases hcs with q0|q0|⟨q0,q1⟩
 · have HT:piB c=false:=by unfold piB;exact decide_eq_false (by omega)
   rw [HT];subst q0;clear HT ht hx hlt;go_enter Tryz.func189,Tryz.ntmps189;go_wp2_with fail;go_ret;exact ⟨by first|rfl|simp [*],rfl⟩
 · have HT:piB c=false:=by unfold piB;exact decide_eq_false (by omega)
   rw [HT];subst q0;clear HT ht hx hlt;go_enter Tryz.func189,Tryz.ntmps189;go_wp2_with fail;go_ret;exact ⟨by first|rfl|simp [*],rfl⟩
 · have HT:piB c=true:=by unfold piB;exact decide_eq_true (by omega)
   rw [HT];clear HT ht hx hlt;go_enter Tryz.func189,Tryz.ntmps189;go_wp2_with fail;go_ret;exact ⟨by first|rfl|simp [*],rfl⟩
theorem w_wInName (c:UInt8) (w:World):
 Calls Tryz.prog 125 #[.int .u8 ((c.toNat:Nat):Int)] w fun e w'=>e= .returned (.bool (inB c))∧w'=w:=by
 have H1:=hQz (fun u=>q0Y c u);have H2:=hQz (fun u=>q1d c u);unfold inB
 cases h1:leB c with
 | true=>
  rw [h1] at H1;clear h1 H2;rw [Bool.true_or];generalize ((c.toNat:Nat):Int)=x at *;go_enter Tryz.func125,Tryz.ntmps125;go_wp2_with fail;refine (H1.out _).mono ?_;rintro e w1 ⟨rfl,rfl⟩;go_wp2_with fail;go_ret;exact ⟨rfl,rfl⟩
 | false=>
  rw [h1] at H1;clear h1;rw [Bool.false_or];generalize dgB c=b2 at *;generalize ((c.toNat:Nat):Int)=x at *;go_enter Tryz.func125,Tryz.ntmps125;go_wp2_with fail;refine (H1.out _).mono ?_;rintro e w1 ⟨rfl,rfl⟩;go_wp2_with fail;refine (H2.out _).mono ?_;rintro e w1 ⟨rfl,rfl⟩;go_wp2_with fail;go_ret;exact ⟨rfl,rfl⟩
theorem w_wInNumber (c:UInt8) (w:World):
 Calls Tryz.prog 148 #[.int .u8 ((c.toNat:Nat):Int)] w fun e w'=>e= .returned (.bool (nuB c))∧w'=w:=by
 have H1:=hQz (fun u=>w_wInName c u);unfold nuB
 cases h1:inB c with
 | true=>
  rw [h1] at H1;clear h1 ;rw [Bool.true_or];generalize ((c.toNat:Nat):Int)=x at *;go_enter Tryz.func148,Tryz.ntmps148;go_wp2_with fail;refine (H1.out _).mono ?_;rintro e w1 ⟨rfl,rfl⟩;go_wp2_with fail;go_ret;exact ⟨rfl,rfl⟩
 | false=>
  rw [h1] at H1;clear h1;rw [Bool.false_or];by_cases hc:c.toNat=46
  · rw [decide_eq_true hc];rw [show ((c.toNat:Nat):Int)=46 by omega] at *;clear hc;go_enter Tryz.func148,Tryz.ntmps148;go_wp2_with fail;refine (H1.out _).mono ?_;rintro e w1 ⟨rfl,rfl⟩;go_wp2_with fail;go_ret;exact ⟨rfl,rfl⟩
  · rw [decide_eq_false hc];have hx:¬ ((c.toNat:Nat):Int)=46:=by omega
    clear hc;generalize ((c.toNat:Nat):Int)=x at *;go_enter Tryz.func148,Tryz.ntmps148;go_wp2_with fail;refine (H1.out _).mono ?_;rintro e w1 ⟨rfl,rfl⟩;go_wp2_with fail;go_ret;exact ⟨by first|rfl|simp [*],rfl⟩
theorem w_bhBlank (s:ByteArray) (p:Nat) (w:World) (hp:p≤s.size) (hs:s.size≤140737488355328):
 Calls Tryz.prog 94 #[.string s,.int .i64 (p:Int),.func (.func 95) #[] #[]] w fun e w'=>e= .returned (.int .i64 ((bhP blB s.data.toList p:Nat):Int))∧w'=w:=by
 obtain ⟨l,hl⟩:∃ l,l=s.data.toList:=⟨_,rfl⟩;have HL:Hid (l.length=s.size):=by show _=_;rw [hl];exact q0d s
 have HG:Hid (∀ q (h:q<s.size),l.getD q 0=s[q]):=fun q h=>by rw [hl];exact q0v h
 rw [← hl];clear hl;go_enter Tryz.func94,Tryz.ntmps94;go_wp2_with fail
 go_loopw [1] (fun a wr=>∃ q:Nat,q≤s.size∧a= .int .i64 (q:Int)∧Hid (bhP blB l p=bhP blB l q)∧wr=w) (fun a _=>s.size-(intOf a).toNat)
 case atStart=>exact ⟨p,hp,rfl,rfl,rfl⟩
 case round=>
  obtain ⟨q,hq,rfl,HQ,rfl⟩:=hrel;by_cases hlt:q<s.size
  · have hi1:(q:Int)<(s.size:Int):=by omega
    have hi0:(0:Int)≤(q:Int):=by omega
    have hi2:¬ (s.size:Int)≤(q:Int):=by omega
    have hc:=fun u=>w_wBlank s[q] u;have hst:=q1B (P:=blB) (l:=l) (p:=q) (by rw [HL.out];exact hlt);have hsp:=q1H (P:=blB) (l:=l) (p:=q) (by rw [HL.out];exact hlt);rw [HG.out q hlt] at hst hsp
    cases h1:blB s[q] with
    | true=>
     rw [h1] at hc hst;have HC:=hQz hc;have HST:=hQz (hst rfl);clear hst hsp hc h1;go_wp2_with fail;refine (HC.out _).mono ?_;rintro e w1 ⟨rfl,rfl⟩;go_wp2_with fail;go_roundw
     case rel=>exact ⟨q+1,by omega,by go_num,HQ.out.trans HST.out,by first|rfl|trivial⟩
     case measure=>simp [intOf];omega
    | false=>
     rw [h1] at hc hsp;have HC:=hQz hc;have HSP:=hQz (HQ.out.trans (hsp rfl));clear hst hsp hc h1;go_wp2_with fail;refine (HC.out _).mono ?_;rintro e w1 ⟨rfl,rfl⟩;go_wp2_with fail;go_ret;exact ⟨by rw [HSP.out];first|done|rfl,rfl⟩
  · have hi1:¬ (q:Int)<(s.size:Int):=by omega
    have HE:Hid (bhP blB l p=q):=by
     show _=_;rw [HQ.out,show q=l.length by rw [HL.out];omega,q2y]
    go_wp2_with fail;go_ret;exact ⟨by rw [HE.out];first|done|rfl,rfl⟩
theorem w_bhName (s:ByteArray) (p:Nat) (w:World) (hp:p≤s.size) (hs:s.size≤140737488355328):
 Calls Tryz.prog 94 #[.string s,.int .i64 (p:Int),.func (.func 125) #[] #[]] w fun e w'=>e= .returned (.int .i64 ((bhP inB s.data.toList p:Nat):Int))∧w'=w:=by
 obtain ⟨l,hl⟩:∃ l,l=s.data.toList:=⟨_,rfl⟩;have HL:Hid (l.length=s.size):=by show _=_;rw [hl];exact q0d s
 have HG:Hid (∀ q (h:q<s.size),l.getD q 0=s[q]):=fun q h=>by rw [hl];exact q0v h
 rw [← hl];clear hl;go_enter Tryz.func94,Tryz.ntmps94;go_wp2_with fail
 go_loopw [1] (fun a wr=>∃ q:Nat,q≤s.size∧a= .int .i64 (q:Int)∧Hid (bhP inB l p=bhP inB l q)∧wr=w) (fun a _=>s.size-(intOf a).toNat)
 case atStart=>exact ⟨p,hp,rfl,rfl,rfl⟩
 case round=>
  obtain ⟨q,hq,rfl,HQ,rfl⟩:=hrel;by_cases hlt:q<s.size
  · have hi1:(q:Int)<(s.size:Int):=by omega
    have hi0:(0:Int)≤(q:Int):=by omega
    have hi2:¬ (s.size:Int)≤(q:Int):=by omega
    have hc:=fun u=>w_wInName s[q] u;have hst:=q1B (P:=inB) (l:=l) (p:=q) (by rw [HL.out];exact hlt);have hsp:=q1H (P:=inB) (l:=l) (p:=q) (by rw [HL.out];exact hlt);rw [HG.out q hlt] at hst hsp
    cases h1:inB s[q] with
    | true=>
     rw [h1] at hc hst;have HC:=hQz hc;have HST:=hQz (hst rfl);clear hst hsp hc h1;go_wp2_with fail;refine (HC.out _).mono ?_;rintro e w1 ⟨rfl,rfl⟩;go_wp2_with fail;go_roundw
     case rel=>exact ⟨q+1,by omega,by go_num,HQ.out.trans HST.out,by first|rfl|trivial⟩
     case measure=>simp [intOf];omega
    | false=>
     rw [h1] at hc hsp;have HC:=hQz hc;have HSP:=hQz (HQ.out.trans (hsp rfl));clear hst hsp hc h1;go_wp2_with fail;refine (HC.out _).mono ?_;rintro e w1 ⟨rfl,rfl⟩;go_wp2_with fail;go_ret;exact ⟨by rw [HSP.out];first|done|rfl,rfl⟩
  · have hi1:¬ (q:Int)<(s.size:Int):=by omega
    have HE:Hid (bhP inB l p=q):=by
     show _=_;rw [HQ.out,show q=l.length by rw [HL.out];omega,q2y]
    go_wp2_with fail;go_ret;exact ⟨by rw [HE.out];first|done|rfl,rfl⟩
theorem w_bhNumber (s:ByteArray) (p:Nat) (w:World) (hp:p≤s.size) (hs:s.size≤140737488355328):
 Calls Tryz.prog 94 #[.string s,.int .i64 (p:Int),.func (.func 148) #[] #[]] w fun e w'=>e= .returned (.int .i64 ((bhP nuB s.data.toList p:Nat):Int))∧w'=w:=by
 obtain ⟨l,hl⟩:∃ l,l=s.data.toList:=⟨_,rfl⟩;have HL:Hid (l.length=s.size):=by show _=_;rw [hl];exact q0d s
 have HG:Hid (∀ q (h:q<s.size),l.getD q 0=s[q]):=fun q h=>by rw [hl];exact q0v h
 rw [← hl];clear hl;go_enter Tryz.func94,Tryz.ntmps94;go_wp2_with fail
 go_loopw [1] (fun a wr=>∃ q:Nat,q≤s.size∧a= .int .i64 (q:Int)∧Hid (bhP nuB l p=bhP nuB l q)∧wr=w) (fun a _=>s.size-(intOf a).toNat)
 case atStart=>exact ⟨p,hp,rfl,rfl,rfl⟩
 case round=>
  obtain ⟨q,hq,rfl,HQ,rfl⟩:=hrel;by_cases hlt:q<s.size
  · have hi1:(q:Int)<(s.size:Int):=by omega
    have hi0:(0:Int)≤(q:Int):=by omega
    have hi2:¬ (s.size:Int)≤(q:Int):=by omega
    have hc:=fun u=>w_wInNumber s[q] u;have hst:=q1B (P:=nuB) (l:=l) (p:=q) (by rw [HL.out];exact hlt);have hsp:=q1H (P:=nuB) (l:=l) (p:=q) (by rw [HL.out];exact hlt);rw [HG.out q hlt] at hst hsp
    cases h1:nuB s[q] with
    | true=>
     rw [h1] at hc hst;have HC:=hQz hc;have HST:=hQz (hst rfl);clear hst hsp hc h1;go_wp2_with fail;refine (HC.out _).mono ?_;rintro e w1 ⟨rfl,rfl⟩;go_wp2_with fail;go_roundw
     case rel=>exact ⟨q+1,by omega,by go_num,HQ.out.trans HST.out,by first|rfl|trivial⟩
     case measure=>simp [intOf];omega
    | false=>
     rw [h1] at hc hsp;have HC:=hQz hc;have HSP:=hQz (HQ.out.trans (hsp rfl));clear hst hsp hc h1;go_wp2_with fail;refine (HC.out _).mono ?_;rintro e w1 ⟨rfl,rfl⟩;go_wp2_with fail;go_ret;exact ⟨by rw [HSP.out];first|done|rfl,rfl⟩
  · have hi1:¬ (q:Int)<(s.size:Int):=by omega
    have HE:Hid (bhP nuB l p=q):=by
     show _=_;rw [HQ.out,show q=l.length by rw [HL.out];omega,q2y]
    go_wp2_with fail;go_ret;exact ⟨by rw [HE.out];first|done|rfl,rfl⟩
theorem w_bhRemark (s:ByteArray) (p:Nat) (w:World) (hp:p≤s.size) (hs:s.size≤140737488355328):
 Calls Tryz.prog 94 #[.string s,.int .i64 (p:Int),.func (.func 96) #[] #[]] w fun e w'=>e= .returned (.int .i64 ((bhP rmB s.data.toList p:Nat):Int))∧w'=w:=by
 obtain ⟨l,hl⟩:∃ l,l=s.data.toList:=⟨_,rfl⟩;have HL:Hid (l.length=s.size):=by show _=_;rw [hl];exact q0d s
 have HG:Hid (∀ q (h:q<s.size),l.getD q 0=s[q]):=fun q h=>by rw [hl];exact q0v h
 rw [← hl];clear hl;go_enter Tryz.func94,Tryz.ntmps94;go_wp2_with fail
 go_loopw [1] (fun a wr=>∃ q:Nat,q≤s.size∧a= .int .i64 (q:Int)∧Hid (bhP rmB l p=bhP rmB l q)∧wr=w) (fun a _=>s.size-(intOf a).toNat)
 case atStart=>exact ⟨p,hp,rfl,rfl,rfl⟩
 case round=>
  obtain ⟨q,hq,rfl,HQ,rfl⟩:=hrel;by_cases hlt:q<s.size
  · have hi1:(q:Int)<(s.size:Int):=by omega
    have hi0:(0:Int)≤(q:Int):=by omega
    have hi2:¬ (s.size:Int)≤(q:Int):=by omega
    have hc:=fun u=>w_wRemark s[q] u;have hst:=q1B (P:=rmB) (l:=l) (p:=q) (by rw [HL.out];exact hlt);have hsp:=q1H (P:=rmB) (l:=l) (p:=q) (by rw [HL.out];exact hlt);rw [HG.out q hlt] at hst hsp
    cases h1:rmB s[q] with
    | true=>
     rw [h1] at hc hst;have HC:=hQz hc;have HST:=hQz (hst rfl);clear hst hsp hc h1;go_wp2_with fail;refine (HC.out _).mono ?_;rintro e w1 ⟨rfl,rfl⟩;go_wp2_with fail;go_roundw
     case rel=>exact ⟨q+1,by omega,by go_num,HQ.out.trans HST.out,by first|rfl|trivial⟩
     case measure=>simp [intOf];omega
    | false=>
     rw [h1] at hc hsp;have HC:=hQz hc;have HSP:=hQz (HQ.out.trans (hsp rfl));clear hst hsp hc h1;go_wp2_with fail;refine (HC.out _).mono ?_;rintro e w1 ⟨rfl,rfl⟩;go_wp2_with fail;go_ret;exact ⟨by rw [HSP.out];first|done|rfl,rfl⟩
  · have hi1:¬ (q:Int)<(s.size:Int):=by omega
    have HE:Hid (bhP rmB l p=q):=by
     show _=_;rw [HQ.out,show q=l.length by rw [HL.out];omega,q2y]
    go_wp2_with fail;go_ret;exact ⟨by rw [HE.out];first|done|rfl,rfl⟩
theorem w_bhPiece (s:ByteArray) (p:Nat) (w:World) (hp:p≤s.size) (hs:s.size≤140737488355328):
 Calls Tryz.prog 94 #[.string s,.int .i64 (p:Int),.func (.func 189) #[] #[]] w fun e w'=>e= .returned (.int .i64 ((bhP piB s.data.toList p:Nat):Int))∧w'=w:=by
 obtain ⟨l,hl⟩:∃ l,l=s.data.toList:=⟨_,rfl⟩;have HL:Hid (l.length=s.size):=by show _=_;rw [hl];exact q0d s
 have HG:Hid (∀ q (h:q<s.size),l.getD q 0=s[q]):=fun q h=>by rw [hl];exact q0v h
 rw [← hl];clear hl;go_enter Tryz.func94,Tryz.ntmps94;go_wp2_with fail
 go_loopw [1] (fun a wr=>∃ q:Nat,q≤s.size∧a= .int .i64 (q:Int)∧Hid (bhP piB l p=bhP piB l q)∧wr=w) (fun a _=>s.size-(intOf a).toNat)
 case atStart=>exact ⟨p,hp,rfl,rfl,rfl⟩
 case round=>
  obtain ⟨q,hq,rfl,HQ,rfl⟩:=hrel;by_cases hlt:q<s.size
  · have hi1:(q:Int)<(s.size:Int):=by omega
    have hi0:(0:Int)≤(q:Int):=by omega
    have hi2:¬ (s.size:Int)≤(q:Int):=by omega
    have hc:=fun u=>w_wPiece s[q] u;have hst:=q1B (P:=piB) (l:=l) (p:=q) (by rw [HL.out];exact hlt);have hsp:=q1H (P:=piB) (l:=l) (p:=q) (by rw [HL.out];exact hlt);rw [HG.out q hlt] at hst hsp
    cases h1:piB s[q] with
    | true=>
     rw [h1] at hc hst;have HC:=hQz hc;have HST:=hQz (hst rfl);clear hst hsp hc h1;go_wp2_with fail;refine (HC.out _).mono ?_;rintro e w1 ⟨rfl,rfl⟩;go_wp2_with fail;go_roundw
     case rel=>exact ⟨q+1,by omega,by go_num,HQ.out.trans HST.out,by first|rfl|trivial⟩
     case measure=>simp [intOf];omega
    | false=>
     rw [h1] at hc hsp;have HC:=hQz hc;have HSP:=hQz (HQ.out.trans (hsp rfl));clear hst hsp hc h1;go_wp2_with fail;refine (HC.out _).mono ?_;rintro e w1 ⟨rfl,rfl⟩;go_wp2_with fail;go_ret;exact ⟨by rw [HSP.out];first|done|rfl,rfl⟩
  · have hi1:¬ (q:Int)<(s.size:Int):=by omega
    have HE:Hid (bhP piB l p=q):=by
     show _=_;rw [HQ.out,show q=l.length by rw [HL.out];omega,q2y]
    go_wp2_with fail;go_ret;exact ⟨by rw [HE.out];first|done|rfl,rfl⟩
theorem w_wOwn (n:ByteArray) (w:World):
 Calls Tryz.prog 146 #[.string n] w fun e w'=>e= .returned (.bool (ownB n.data.toList))∧w'=w:=by
 by_cases h0:n.data.toList=[100,101,102]
 · have HT:ownB n.data.toList=true:=by rw [h0];decide
   rw [HT];have g0:(n.toList==[100,101,102])=true:=by rw [Lib.toList_data,h0];rfl
   clear HT h0;go_enter Tryz.func146,Tryz.ntmps146;go_wp2_with fail;go_ret;exact ⟨rfl,rfl⟩
 have g0:(n.toList==[100,101,102])=false:=by rw [Lib.toList_data,bqZ];exact h0
 have b0:=bqZ.2 h0;clear h0;by_cases h1:n.data.toList=[105,102]
 · have HT:ownB n.data.toList=true:=by rw [h1];decide
   rw [HT];have g1:(n.toList==[105,102])=true:=by rw [Lib.toList_data,h1];rfl
   clear HT h1;go_enter Tryz.func146,Tryz.ntmps146;go_wp2_with fail;go_ret;exact ⟨rfl,rfl⟩
 have g1:(n.toList==[105,102])=false:=by rw [Lib.toList_data,bqZ];exact h1
 have b1:=bqZ.2 h1;clear h1;by_cases h2:n.data.toList=[116,104,101,110]
 · have HT:ownB n.data.toList=true:=by rw [h2];decide
   rw [HT];have g2:(n.toList==[116,104,101,110])=true:=by rw [Lib.toList_data,h2];rfl
   clear HT h2;go_enter Tryz.func146,Tryz.ntmps146;go_wp2_with fail;go_ret;exact ⟨rfl,rfl⟩
 have g2:(n.toList==[116,104,101,110])=false:=by rw [Lib.toList_data,bqZ];exact h2
 have b2:=bqZ.2 h2;clear h2;by_cases h3:n.data.toList=[101,108,105,102]
 · have HT:ownB n.data.toList=true:=by rw [h3];decide
   rw [HT];have g3:(n.toList==[101,108,105,102])=true:=by rw [Lib.toList_data,h3];rfl
   clear HT h3;go_enter Tryz.func146,Tryz.ntmps146;go_wp2_with fail;go_ret;exact ⟨rfl,rfl⟩
 have g3:(n.toList==[101,108,105,102])=false:=by rw [Lib.toList_data,bqZ];exact h3
 have b3:=bqZ.2 h3;clear h3;by_cases h4:n.data.toList=[101,108,115,101]
 · have HT:ownB n.data.toList=true:=by rw [h4];decide
   rw [HT];have g4:(n.toList==[101,108,115,101])=true:=by rw [Lib.toList_data,h4];rfl
   clear HT h4;go_enter Tryz.func146,Tryz.ntmps146;go_wp2_with fail;go_ret;exact ⟨rfl,rfl⟩
 have g4:(n.toList==[101,108,115,101])=false:=by rw [Lib.toList_data,bqZ];exact h4
 have b4:=bqZ.2 h4;clear h4;by_cases h5:n.data.toList=[101,110,100]
 · have HT:ownB n.data.toList=true:=by rw [h5];decide
   rw [HT];have g5:(n.toList==[101,110,100])=true:=by rw [Lib.toList_data,h5];rfl
   clear HT h5;go_enter Tryz.func146,Tryz.ntmps146;go_wp2_with fail;go_ret;exact ⟨rfl,rfl⟩
 have g5:(n.toList==[101,110,100])=false:=by rw [Lib.toList_data,bqZ];exact h5
 have b5:=bqZ.2 h5;clear h5;by_cases h6:n.data.toList=[97,115]
 · have HT:ownB n.data.toList=true:=by rw [h6];decide
   rw [HT];have g6:(n.toList==[97,115])=true:=by rw [Lib.toList_data,h6];rfl
   clear HT h6;go_enter Tryz.func146,Tryz.ntmps146;go_wp2_with fail;go_ret;exact ⟨rfl,rfl⟩
 have g6:(n.toList==[97,115])=false:=by rw [Lib.toList_data,bqZ];exact h6
 have b6:=bqZ.2 h6;clear h6;by_cases h7:n.data.toList=[114,101,100,117,99,101]
 · have HT:ownB n.data.toList=true:=by rw [h7];decide
   rw [HT];have g7:(n.toList==[114,101,100,117,99,101])=true:=by rw [Lib.toList_data,h7];rfl
   clear HT h7;go_enter Tryz.func146,Tryz.ntmps146;go_wp2_with fail;go_ret;exact ⟨rfl,rfl⟩
 have g7:(n.toList==[114,101,100,117,99,101])=false:=by rw [Lib.toList_data,bqZ];exact h7
 have b7:=bqZ.2 h7;clear h7;by_cases h8:n.data.toList=[102,111,114,101,97,99,104]
 · have HT:ownB n.data.toList=true:=by rw [h8];decide
   rw [HT];have g8:(n.toList==[102,111,114,101,97,99,104])=true:=by rw [Lib.toList_data,h8];rfl
   clear HT h8;go_enter Tryz.func146,Tryz.ntmps146;go_wp2_with fail;go_ret;exact ⟨rfl,rfl⟩
 have g8:(n.toList==[102,111,114,101,97,99,104])=false:=by rw [Lib.toList_data,bqZ];exact h8
 have b8:=bqZ.2 h8;clear h8;by_cases h9:n.data.toList=[116,114,121]
 · have HT:ownB n.data.toList=true:=by rw [h9];decide
   rw [HT];have g9:(n.toList==[116,114,121])=true:=by rw [Lib.toList_data,h9];rfl
   clear HT h9;go_enter Tryz.func146,Tryz.ntmps146;go_wp2_with fail;go_ret;exact ⟨rfl,rfl⟩
 have g9:(n.toList==[116,114,121])=false:=by rw [Lib.toList_data,bqZ];exact h9
 have b9:=bqZ.2 h9;clear h9;by_cases h10:n.data.toList=[99,97,116,99,104]
 · have HT:ownB n.data.toList=true:=by rw [h10];decide
   rw [HT];have g10:(n.toList==[99,97,116,99,104])=true:=by rw [Lib.toList_data,h10];rfl
   clear HT h10;go_enter Tryz.func146,Tryz.ntmps146;go_wp2_with fail;go_ret;exact ⟨rfl,rfl⟩
 have g10:(n.toList==[99,97,116,99,104])=false:=by rw [Lib.toList_data,bqZ];exact h10
 have b10:=bqZ.2 h10;clear h10;by_cases h11:n.data.toList=[97,110,100]
 · have HT:ownB n.data.toList=true:=by rw [h11];decide
   rw [HT];have g11:(n.toList==[97,110,100])=true:=by rw [Lib.toList_data,h11];rfl
   clear HT h11;go_enter Tryz.func146,Tryz.ntmps146;go_wp2_with fail;go_ret;exact ⟨rfl,rfl⟩
 have g11:(n.toList==[97,110,100])=false:=by rw [Lib.toList_data,bqZ];exact h11
 have b11:=bqZ.2 h11;clear h11;by_cases h12:n.data.toList=[111,114]
 · have HT:ownB n.data.toList=true:=by rw [h12];decide
   rw [HT];have g12:(n.toList==[111,114])=true:=by rw [Lib.toList_data,h12];rfl
   clear HT h12;go_enter Tryz.func146,Tryz.ntmps146;go_wp2_with fail;go_ret;exact ⟨rfl,rfl⟩
 have g12:(n.toList==[111,114])=false:=by rw [Lib.toList_data,bqZ];exact h12
 have b12:=bqZ.2 h12;clear h12;by_cases h13:n.data.toList=[108,97,98,101,108]
 · have HT:ownB n.data.toList=true:=by rw [h13];decide
   rw [HT];have g13:(n.toList==[108,97,98,101,108])=true:=by rw [Lib.toList_data,h13];rfl
   clear HT h13;go_enter Tryz.func146,Tryz.ntmps146;go_wp2_with fail;go_ret;exact ⟨rfl,rfl⟩
 have g13:(n.toList==[108,97,98,101,108])=false:=by rw [Lib.toList_data,bqZ];exact h13
 have b13:=bqZ.2 h13;clear h13;by_cases h14:n.data.toList=[98,114,101,97,107]
 · have HT:ownB n.data.toList=true:=by rw [h14];decide
   rw [HT];have g14:(n.toList==[98,114,101,97,107])=true:=by rw [Lib.toList_data,h14];rfl
   clear HT h14;go_enter Tryz.func146,Tryz.ntmps146;go_wp2_with fail;go_ret;exact ⟨rfl,rfl⟩
 have g14:(n.toList==[98,114,101,97,107])=false:=by rw [Lib.toList_data,bqZ];exact h14
 have b14:=bqZ.2 h14;clear h14;by_cases h15:n.data.toList=[110,117,108,108]
 · have HT:ownB n.data.toList=true:=by rw [h15];decide
   rw [HT];have g15:(n.toList==[110,117,108,108])=true:=by rw [Lib.toList_data,h15];rfl
   clear HT h15;go_enter Tryz.func146,Tryz.ntmps146;go_wp2_with fail;go_ret;exact ⟨rfl,rfl⟩
 have g15:(n.toList==[110,117,108,108])=false:=by rw [Lib.toList_data,bqZ];exact h15
 have b15:=bqZ.2 h15;clear h15;by_cases h16:n.data.toList=[116,114,117,101]
 · have HT:ownB n.data.toList=true:=by rw [h16];decide
   rw [HT];have g16:(n.toList==[116,114,117,101])=true:=by rw [Lib.toList_data,h16];rfl
   clear HT h16;go_enter Tryz.func146,Tryz.ntmps146;go_wp2_with fail;go_ret;exact ⟨rfl,rfl⟩
 have g16:(n.toList==[116,114,117,101])=false:=by rw [Lib.toList_data,bqZ];exact h16
 have b16:=bqZ.2 h16;clear h16;by_cases h17:n.data.toList=[102,97,108,115,101]
 · have HT:ownB n.data.toList=true:=by rw [h17];decide
   rw [HT];have g17:(n.toList==[102,97,108,115,101])=true:=by rw [Lib.toList_data,h17];rfl
   clear HT h17;go_enter Tryz.func146,Tryz.ntmps146;go_wp2_with fail;go_ret;exact ⟨rfl,rfl⟩
 have g17:(n.toList==[102,97,108,115,101])=false:=by rw [Lib.toList_data,bqZ];exact h17
 have b17:=bqZ.2 h17;clear h17
 have HT:ownB n.data.toList=false:=by
  unfold ownB;simp only [ownL,List.cons_append,List.nil_append,List.contains_cons,List.contains_nil,b0,b1,b2,b3,b4,b5,b6,b7,b8,b9,b10,b11,b12,b13,b14,b15,b16,b17,Bool.or_false]
 rw [HT];clear HT b0 b1 b2 b3 b4 b5 b6 b7 b8 b9 b10 b11 b12 b13 b14 b15 b16 b17;go_enter Tryz.func146,Tryz.ntmps146;go_wp2_with fail;go_ret;exact ⟨rfl,rfl⟩
theorem ext_cut (s:ByteArray) (a b:Nat) (hb:b≤s.size):s.extract a b=⟨(cut s.data.toList a b).toArray⟩:=by
 have h:=q1V s a b hb;have e:(s.extract a b).data=(cut s.data.toList a b).toArray:=by rw [← h]
 cases hx:s.extract a b with
 | mk d=>rw [hx] at e;exact congrArg ByteArray.mk e
theorem arr_lst (x:List UInt8):(⟨x.toArray⟩:ByteArray).data.toList=x:=rfl
theorem q1C (x:List UInt8):(⟨x.toArray⟩:ByteArray).size=x.length:=by show x.toArray.size=_;simp
theorem cut_len {l:List UInt8} {a b:Nat} (hb:b≤l.length):(cut l a b).length=b-a:=by unfold cut;simp;omega
theorem q23 {l:List UInt8} {p:Nat} (hp:p≤l.length):p+(q0z l p).length≤l.length:=by
 unfold q0z
 split
 · next h=>
   have:=q1F inB hp;rw [cut_len this.2];omega
 · simpa using hp
theorem q11 (s:ByteArray) (p:Nat) (w:World) (hp:p≤s.size) (hs:s.size≤140737488355328):
 Calls Tryz.prog 64 #[.string s,.int .i64 (p:Int)] w fun e w'=>e= .returned (.string ⟨(q0z s.data.toList p).toArray⟩)∧w'=w:=by
 by_cases he:p=s.size
 · have HN:Hid (q0z s.data.toList p=[]):=by show _=_;unfold q0z;rw [if_neg (by rw [q0d];omega)]
   have hq:((p:Int)==(s.size:Int))=true:=by rw [he];simp
   clear he;go_enter Tryz.func64,Tryz.ntmps64;go_wp2_with fail;go_ret;exact ⟨by rw [HN.out];first|done|rfl,rfl⟩
 · have hlt:p<s.size:=by omega
   have hq:((p:Int)==(s.size:Int))=false:=by rw [bqZ];omega
   have hi0:(0:Int)≤(p:Int):=by omega
   have hi1:(p:Int)<(s.size:Int):=by omega
   have hc:=fun u=>q0Y s[p] u;have hd:=q0v hlt
   cases h1:leB s[p] with
   | false=>
    rw [h1] at hc;have HC:=hQz hc;have HN:Hid (q0z s.data.toList p=[]):=by show _=_;unfold q0z;rw [if_neg (by rw [hd,h1];simp)]
    clear he hc hd h1;go_enter Tryz.func64,Tryz.ntmps64;go_wp2_with fail;refine (HC.out _).mono ?_;rintro e w1 ⟨rfl,hw1⟩;obtain rfl:=hw1.symm;go_wp2_with fail;go_ret;exact ⟨by rw [HN.out];first|done|rfl,rfl⟩
   | true=>
    rw [h1] at hc;have HC:=hQz hc;have HBh:=hQz (fun u=>w_bhName s p u hp hs);have hbe:=q1F inB (l:=s.data.toList) (p:=p) (by rw [q0d];omega);have HN:Hid (q0z s.data.toList p=cut s.data.toList p (bhP inB s.data.toList p)):=by show _=_;unfold q0z;rw [if_pos ⟨by rw [q0d];exact hlt,by rw [hd,h1]⟩]
    have HX:=hQz (ext_cut s p (bhP inB s.data.toList p) (by rw [← q0d];exact hbe.2));rw [q0d] at hbe;generalize bhP inB s.data.toList p=q at *;obtain ⟨hpq,hqs⟩:=hbe;have hj1:(p:Int)≤(q:Int):=by omega
    have hj2:(q:Int)≤(s.size:Int):=by omega
    clear he hc hd h1;go_enter Tryz.func64,Tryz.ntmps64;go_wp2_with fail;refine (HC.out _).mono ?_;rintro e w1 ⟨rfl,hw1⟩;obtain rfl:=hw1.symm;go_wp2_with fail;refine (HBh.out _).mono ?_;rintro e w1 ⟨rfl,hw1⟩;obtain rfl:=hw1.symm;go_wp2_with fail;go_ret;exact ⟨by rw [HN.out,← HX.out];first|done|rfl,rfl⟩
theorem named_lst (s:ByteArray):q2k s.data.toList=(!(s.toList==[])&&((⟨(q0z s.data.toList 0).toArray⟩:ByteArray).toList==s.toList)):=by
 unfold q2k;rw [Lib.toList_data,Lib.toList_data];show _=(!(s.data.toList==[])&&(q0z s.data.toList 0==s.data.toList));generalize s.data.toList=l;by_cases h1:l=[]
 · subst h1;simp
 · by_cases h2:q0z l 0=l
   · rw [decide_eq_true ⟨h1,h2⟩,h2,bqZ.2 h1];simp
   · rw [decide_eq_false (fun h=>h2 h.2),bqZ.2 h2];simp
theorem w_Named (s:ByteArray) (w:World) (hs:s.size≤140737488355328):
 Calls Tryz.prog 35 #[.string s] w fun e w'=>e= .returned (.bool (q2k s.data.toList))∧w'=w:=by
 have HN:=hQz (fun u=>q11 s 0 u (Nat.zero_le _) hs);rw [named_lst];generalize (⟨(q0z s.data.toList 0).toArray⟩:ByteArray)=nm at *;by_cases h0:s.toList=[]
 · have e1:(s.toList==[])=true:=by rw [h0];rfl
   have e2:s.toList.isEmpty=true:=by rw [h0];rfl
   rw [e1];clear HN;go_enter Tryz.func35,Tryz.ntmps35;go_wp2_with fail;go_ret;exact ⟨rfl,rfl⟩
 · have e1:(s.toList==[])=false:=bqZ.2 h0;have e2:s.toList.isEmpty=false:=by simp [h0]
   rw [e1];go_enter Tryz.func35,Tryz.ntmps35;go_wp2_with fail;refine (HN.out _).mono ?_;rintro e w1 ⟨rfl,hw1⟩;obtain rfl:=hw1.symm;go_wp2_with fail;go_ret;exact ⟨by simp,rfl⟩
theorem w_Plain (s:ByteArray) (w:World) (hs:s.size≤140737488355328):
 Calls Tryz.prog 132 #[.string s] w fun e w'=>e= .returned (.bool (q0X s.data.toList))∧w'=w:=by
 have HN:=hQz (fun u=>w_Named s u hs);have HO:=hQz (fun u=>w_wOwn s u);unfold q0X
 cases h1:q2k s.data.toList with
 | false=>
  rw [h1] at HN;clear h1;go_enter Tryz.func132,Tryz.ntmps132;go_wp2_with fail;refine (HN.out _).mono ?_;rintro e w1 ⟨rfl,hw1⟩;obtain rfl:=hw1.symm;go_wp2_with fail;go_ret;exact ⟨rfl,rfl⟩
 | true=>
  rw [h1] at HN;clear h1;generalize ownB s.data.toList=b2 at *;go_enter Tryz.func132,Tryz.ntmps132;go_wp2_with fail;refine (HN.out _).mono ?_;rintro e w1 ⟨rfl,hw1⟩;obtain rfl:=hw1.symm;go_wp2_with fail;refine (HO.out _).mono ?_;rintro e w1 ⟨rfl,hw1⟩;obtain rfl:=hw1.symm;go_wp2_with fail;go_ret;exact ⟨by cases b2 <;> rfl,rfl⟩
end Go.Proofs.YtdjleoglphgdgaaGreatDoor
