import Derived.Test.YtdjleoglphgdgaaGreatDoorM22
import Derived.Shelf.Strings.SlTrimAscii
import Derived.Deep.QuietTactic
import Derived.BigQuiet
set_option linter.unusedVariables false
set_option linter.unusedSimpArgs false
namespace Go.Proofs.YtdjleoglphgdgaaGreatDoor
open Go.RowKit
set_option maxRecDepth 100000
set_option maxHeartbeats 12800000
theorem q0d (s:ByteArray):s.data.toList.length=s.size:=by rw [Array.length_toList];rfl
theorem q1W (s:ByteArray) (a b:Nat) (hb:b≤s.size):(s.extract a b).data.toList=cut s.data.toList a b:=by
 rw [Lib.extract_data];rfl
def tokV (t:Tok):Value:= .agg #[.int .i64 (t.kind:Int),.int .i64 (t.at_:Int),.int .i64 (t.fin:Int),.string ⟨t.text.toArray⟩]
def TokR (t:Tok) (w w':World) (e:Ending):Prop:=e= .returned (.tuple #[tokV t,.int .i64 (t.err:Int)])∧Below w.heap.size w w'
theorem q0v {s:ByteArray} {p:Nat} (h:p<s.size):s.data.toList.getD p 0=s[p]:=by
 rw [← byte_eq s p h];have:p<s.data.toList.length:=by rw [q0d];exact h
 rw [List.getD,List.getElem?_eq_getElem this];rfl
theorem q0k (w:World) (B:Nat) (t:TypeId) (y0 y1 y2 y3 a0 a1 a2 a3:Value) (h:w.heap[B]? =some (.cells #[y0,y1,y2,y3] t (0,0))) (wz:World) (hz:wz=(((w.setCell ⟨B,0,none⟩ a0).setCell ⟨B,1,none⟩ a1).setCell ⟨B,2,none⟩ a2).setCell ⟨B,3,none⟩ a3):
 wz.heap[B]? =some (.cells #[a0,a1,a2,a3] t (0,0))∧(∀ b,b≠B→wz.heap[b]? =w.heap[b]?)∧wz.heap.size=w.heap.size∧∀ n,n≤B→Below n w wz:=by
 subst hz;refine ⟨?_,fun b hb=> ?_,by simp,fun n hn=> ?_⟩
 · have e:∀ (u:World) (c:Array Value) (i:Nat) (v:Value),u.heap[B]? =some (.cells c t (0,0))→(u.setCell ⟨B,i,none⟩ v).heap[B]? =some (.cells (c.setIfInBounds i v) t (0,0)):=fun u c i v hu=>by
    show (u.heap.modify B _)[B]? =_;rw [Array.getElem?_modify,if_pos rfl,hu];rfl
   exact e _ _ 3 a3 (e _ _ 2 a2 (e _ _ 1 a1 (e _ _ 0 a0 h)))
 · rw [Below.heap_setCell _ _ _ _ hb,Below.heap_setCell _ _ _ _ hb,Below.heap_setCell _ _ _ _ hb,Below.heap_setCell _ _ _ _ hb]
 · exact ((((Below.refl n w).setCell (p:=⟨B,0,none⟩) hn _).setCell (p:=⟨B,1,none⟩) hn _).setCell (p:=⟨B,2,none⟩) hn _).setCell (p:=⟨B,3,none⟩) hn _
theorem q0f {w:World} {B j:Nat} {cs:Array Value} {t:TypeId} (h:w.heap[B]? =some (.cells cs t (0,0))):w.frozen? ⟨B,j,none⟩=false:=by simp [World.frozen?,h]
theorem q0y {w w':World} {n:Nat} (hb:Below n w w') {b:Nat} {o:Obj} (hlt:b<n) (h:w.heap[b]? =some o):w'.heap[b]? =some o:=(hb.block b hlt).trans h
def q0c:Obj:= .cells #[.int .i64 0,.int .i64 0,.int .i64 0,.string ⟨#[]⟩] 82
theorem tbox1 {w w1:World} (hb:Below (w.alloc q0c).heap.size (w.alloc q0c) w1):w1.heap[w.heap.size]? =some (.cells #[.int .i64 0,.int .i64 0,.int .i64 0,.string ⟨#[]⟩] 82 (0,0))∧Below w.heap.size w w1:=
 ⟨q0y hb (by simp) (heap_alloc_new w _),(q0a w q0c).trans (hb.mono (by simp))⟩
theorem q06 {w:World} {B:Nat} {t:TypeId} {y0 y1 y2 y3:Value} (h:w.heap[B]? =some (.cells #[y0,y1,y2,y3] t (0,0))):
 w.cell? ⟨B,0,none⟩=some y0∧w.cell? ⟨B,1,none⟩=some y1∧w.cell? ⟨B,2,none⟩=some y2∧w.cell? ⟨B,3,none⟩=some y3∧w.frozen? ⟨B,0,none⟩=false∧w.frozen? ⟨B,1,none⟩=false∧w.frozen? ⟨B,2,none⟩=false∧w.frozen? ⟨B,3,none⟩=false:=by
 refine ⟨?_,?_,?_,?_,q0f h,q0f h,q0f h,q0f h⟩ <;> rw [cell_of_row _ _ _ _ _ _ h] <;> rfl
theorem w_wBlank (c:UInt8) (w:World):
 Calls Tryz.prog 95 #[.int .u8 ((c.toNat:Nat):Int)] w fun e w'=>e= .returned (.bool (blB c))∧w'=w:=by
 have ht:∀ b,blB c=b→blB c=b:=fun _ h=>h;unfold blB at ht;have hlt:=c.toNat_lt;obtain ⟨x,hx⟩:∃ x:Int,((c.toNat:Nat):Int)=x:=⟨_,rfl⟩;rw [hx];have hcs:(x=32)∨(x=9)∨(x=10)∨(x=13)∨(¬ x=32∧¬ x=9∧¬ x=10∧¬ x=13):=by omega
 rcases hcs with q0|q0|q0|q0|⟨q0,q1,q2,q3⟩
 · have HT:blB c=true:=by unfold blB;exact decide_eq_true (by omega)
   rw [HT];subst q0;clear HT ht hx hlt;go_in;go_wp2_with fail;go_ret;exact ⟨by first|rfl|simp [*],rfl⟩
 · have HT:blB c=true:=by unfold blB;exact decide_eq_true (by omega)
   rw [HT];subst q0;clear HT ht hx hlt;go_in;go_wp2_with fail;go_ret;exact ⟨by first|rfl|simp [*],rfl⟩
 · have HT:blB c=true:=by unfold blB;exact decide_eq_true (by omega)
   rw [HT];subst q0;clear HT ht hx hlt;go_in;go_wp2_with fail;go_ret;exact ⟨by first|rfl|simp [*],rfl⟩
 · have HT:blB c=true:=by unfold blB;exact decide_eq_true (by omega)
   rw [HT];subst q0;clear HT ht hx hlt;go_in;go_wp2_with fail;go_ret;exact ⟨by first|rfl|simp [*],rfl⟩
 · have HT:blB c=false:=by unfold blB;exact decide_eq_false (by omega)
   rw [HT];clear HT ht hx hlt;go_in;go_wp2_with fail;go_ret;exact ⟨by first|rfl|simp [*],rfl⟩
theorem q1d (c:UInt8) (w:World):
 Calls Tryz.prog 101 #[.int .u8 ((c.toNat:Nat):Int)] w fun e w'=>e= .returned (.bool (dgB c))∧w'=w:=by
 have ht:∀ b,dgB c=b→dgB c=b:=fun _ h=>h;unfold dgB at ht;have hlt:=c.toNat_lt;obtain ⟨x,hx⟩:∃ x:Int,((c.toNat:Nat):Int)=x:=⟨_,rfl⟩;rw [hx];have hcs:(48≤x∧x≤57)∨(48≤x∧¬ x≤57)∨(¬ 48≤x∧x≤57):=by omega
 rcases hcs with ⟨q0,q1⟩|⟨q0,q1⟩|⟨q0,q1⟩
 · have HT:dgB c=true:=by unfold dgB;exact decide_eq_true (by omega)
   rw [HT];clear HT ht hx hlt;go_in;go_wp2_with fail;go_ret;exact ⟨by first|rfl|simp [*],rfl⟩
 · have HT:dgB c=false:=by unfold dgB;exact decide_eq_false (by omega)
   rw [HT];clear HT ht hx hlt;go_in;go_wp2_with fail;go_ret;exact ⟨by first|rfl|simp [*],rfl⟩
 · have HT:dgB c=false:=by unfold dgB;exact decide_eq_false (by omega)
   rw [HT];clear HT ht hx hlt;go_in;go_wp2_with fail;go_ret;exact ⟨by first|rfl|simp [*],rfl⟩
theorem q0X (c:UInt8) (w:World):
 Calls Tryz.prog 97 #[.int .u8 ((c.toNat:Nat):Int)] w fun e w'=>e= .returned (.bool (leB c))∧w'=w:=by
 have ht:∀ b,leB c=b→leB c=b:=fun _ h=>h;unfold leB at ht;have hlt:=c.toNat_lt;obtain ⟨x,hx⟩:∃ x:Int,((c.toNat:Nat):Int)=x:=⟨_,rfl⟩;rw [hx];have hcs:(97≤x∧x≤122)∨(97≤x∧¬ x≤122∧65≤x∧¬ x≤90∧¬ x=95)∨(¬ 97≤x∧65≤x∧x≤90)∨(¬ 97≤x∧65≤x∧¬ x≤90∧x=95)∨(¬ 97≤x∧65≤x∧¬ x≤90∧¬ x=95)∨(¬ 97≤x∧¬ 65≤x∧¬ x=95):=by omega
 rcases hcs with ⟨q0,q1⟩|⟨q0,q1,q2,q3,q4⟩|⟨q0,q1,q2⟩|⟨q0,q1,q2,q3⟩|⟨q0,q1,q2,q3⟩|⟨q0,q1,q2⟩
 · have HT:leB c=true:=by unfold leB;exact decide_eq_true (by omega)
   rw [HT];clear HT ht hx hlt;go_in;go_wp2_with fail;go_ret;exact ⟨by first|rfl|simp [*],rfl⟩
 · have HT:leB c=false:=by unfold leB;exact decide_eq_false (by omega)
   rw [HT];clear HT ht hx hlt;go_in;go_wp2_with fail;go_ret;exact ⟨by first|rfl|simp [*],rfl⟩
 · have HT:leB c=true:=by unfold leB;exact decide_eq_true (by omega)
   rw [HT];clear HT ht hx hlt;go_in;go_wp2_with fail;go_ret;exact ⟨by first|rfl|simp [*],rfl⟩
 · have HT:leB c=true:=by unfold leB;exact decide_eq_true (by omega)
   rw [HT];subst q3;clear HT ht hx hlt q0 q1 q2;go_in;go_wp2_with fail;go_ret;exact ⟨by first|rfl|simp [*],rfl⟩
 · have HT:leB c=false:=by unfold leB;exact decide_eq_false (by omega)
   rw [HT];clear HT ht hx hlt;go_in;go_wp2_with fail;go_ret;exact ⟨by first|rfl|simp [*],rfl⟩
 · have HT:leB c=false:=by unfold leB;exact decide_eq_false (by omega)
   rw [HT];clear HT ht hx hlt;go_in;go_wp2_with fail;go_ret;exact ⟨by first|rfl|simp [*],rfl⟩
theorem w_wRemark (c:UInt8) (w:World):
 Calls Tryz.prog 96 #[.int .u8 ((c.toNat:Nat):Int)] w fun e w'=>e= .returned (.bool (rmB c))∧w'=w:=by
 have ht:∀ b,rmB c=b→rmB c=b:=fun _ h=>h;unfold rmB at ht;have hlt:=c.toNat_lt;obtain ⟨x,hx⟩:∃ x:Int,((c.toNat:Nat):Int)=x:=⟨_,rfl⟩;rw [hx];have hcs:(x=10)∨(¬ x=10):=by omega
 rcases hcs with q0|q0
 · have HT:rmB c=false:=by unfold rmB;exact decide_eq_false (by omega)
   rw [HT];subst q0;clear HT ht hx hlt;go_in;go_wp2_with fail;go_ret;exact ⟨by first|rfl|simp [*],rfl⟩
 · have HT:rmB c=true:=by unfold rmB;exact decide_eq_true (by omega)
   rw [HT];clear HT ht hx hlt;go_in;go_wp2_with fail;go_ret;exact ⟨by first|rfl|simp [*],rfl⟩
theorem w_wPiece (c:UInt8) (w:World):
 Calls Tryz.prog 189 #[.int .u8 ((c.toNat:Nat):Int)] w fun e w'=>e= .returned (.bool (piB c))∧w'=w:=by
 have ht:∀ b,piB c=b→piB c=b:=fun _ h=>h;unfold piB at ht;have hlt:=c.toNat_lt;obtain ⟨x,hx⟩:∃ x:Int,((c.toNat:Nat):Int)=x:=⟨_,rfl⟩;rw [hx];have hcs:(x=34)∨(x=92)∨(¬ x=34∧¬ x=92):=by omega
 rcases hcs with q0|q0|⟨q0,q1⟩
 · have HT:piB c=false:=by unfold piB;exact decide_eq_false (by omega)
   rw [HT];subst q0;clear HT ht hx hlt;go_in;go_wp2_with fail;go_ret;exact ⟨by first|rfl|simp [*],rfl⟩
 · have HT:piB c=false:=by unfold piB;exact decide_eq_false (by omega)
   rw [HT];subst q0;clear HT ht hx hlt;go_in;go_wp2_with fail;go_ret;exact ⟨by first|rfl|simp [*],rfl⟩
 · have HT:piB c=true:=by unfold piB;exact decide_eq_true (by omega)
   rw [HT];clear HT ht hx hlt;go_in;go_wp2_with fail;go_ret;exact ⟨by first|rfl|simp [*],rfl⟩
theorem w_wInName (c:UInt8) (w:World):
 Calls Tryz.prog 125 #[.int .u8 ((c.toNat:Nat):Int)] w fun e w'=>e= .returned (.bool (inB c))∧w'=w:=by
 have H1:=hQz (fun u=>q0X c u);have H2:=hQz (fun u=>q1d c u);unfold inB
 cases h1:leB c with
 | true=>
  rw [h1] at H1;clear h1 H2;rw [Bool.true_or];generalize ((c.toNat:Nat):Int)=x at *;go_in;go_wp2_with fail;refine (H1.out _).mono ?_;rintro e w1 ⟨rfl,rfl⟩;go_wp2_with fail;go_ret;exact ⟨rfl,rfl⟩
 | false=>
  rw [h1] at H1;clear h1;rw [Bool.false_or];generalize dgB c=b2 at *;generalize ((c.toNat:Nat):Int)=x at *;go_in;go_wp2_with fail;refine (H1.out _).mono ?_;rintro e w1 ⟨rfl,rfl⟩;go_wp2_with fail;refine (H2.out _).mono ?_;rintro e w1 ⟨rfl,rfl⟩;go_wp2_with fail;go_ret;exact ⟨rfl,rfl⟩
theorem w_wInNumber (c:UInt8) (w:World):
 Calls Tryz.prog 148 #[.int .u8 ((c.toNat:Nat):Int)] w fun e w'=>e= .returned (.bool (nuB c))∧w'=w:=by
 have H1:=hQz (fun u=>w_wInName c u);unfold nuB
 cases h1:inB c with
 | true=>
  rw [h1] at H1;clear h1 ;rw [Bool.true_or];generalize ((c.toNat:Nat):Int)=x at *;go_in;go_wp2_with fail;refine (H1.out _).mono ?_;rintro e w1 ⟨rfl,rfl⟩;go_wp2_with fail;go_ret;exact ⟨rfl,rfl⟩
 | false=>
  rw [h1] at H1;clear h1;rw [Bool.false_or];by_cases hc:c.toNat=46
  · rw [decide_eq_true hc];rw [show ((c.toNat:Nat):Int)=46 by omega] at *;clear hc;go_in;go_wp2_with fail;refine (H1.out _).mono ?_;rintro e w1 ⟨rfl,rfl⟩;go_wp2_with fail;go_ret;exact ⟨rfl,rfl⟩
  · rw [decide_eq_false hc];have hx:¬ ((c.toNat:Nat):Int)=46:=by omega
    clear hc;generalize ((c.toNat:Nat):Int)=x at *;go_in;go_wp2_with fail;refine (H1.out _).mono ?_;rintro e w1 ⟨rfl,rfl⟩;go_wp2_with fail;go_ret;exact ⟨by first|rfl|simp [*],rfl⟩
theorem w_bhBlank (s:ByteArray) (p:Nat) (w:World) (hp:p≤s.size) (hs:s.size≤140737488355328):
 Calls Tryz.prog 94 #[.string s,.int .i64 (p:Int),.func (.func 95) #[] #[]] w fun e w'=>e= .returned (.int .i64 ((bhP blB s.data.toList p:Nat):Int))∧w'=w:=by
 obtain ⟨l,hl⟩:∃ l,l=s.data.toList:=⟨_,rfl⟩;have HL:Hid (l.length=s.size):=by show _=_;rw [hl];exact q0d s
 have HG:Hid (∀ q (h:q<s.size),l.getD q 0=s[q]):=fun q h=>by rw [hl];exact q0v h
 rw [← hl];clear hl;go_in;go_wp2_with fail
 go_loopw [1] (fun a wr=>∃ q:Nat,q≤s.size∧a= .int .i64 (q:Int)∧Hid (bhP blB l p=bhP blB l q)∧wr=w) (fun a _=>s.size-(intOf a).toNat)
 case atStart=>exact ⟨p,hp,rfl,rfl,rfl⟩
 case round=>
  obtain ⟨q,hq,rfl,HQ,rfl⟩:=hrel;by_cases hlt:q<s.size
  · have hi1:(q:Int)<(s.size:Int):=by omega
    have hi0:(0:Int)≤(q:Int):=by omega
    have hi2:¬ (s.size:Int)≤(q:Int):=by omega
    have hc:=fun u=>w_wBlank s[q] u;have hst:=q1B (P:=blB) (l:=l) (p:=q) (by rw [HL.out];exact hlt);have hsp:=q1E (P:=blB) (l:=l) (p:=q) (by rw [HL.out];exact hlt);rw [HG.out q hlt] at hst hsp
    cases h1:blB s[q] with
    | true=>
     rw [h1] at hc hst;have HC:=hQz hc;have HST:=hQz (hst rfl);clear hst hsp hc h1;go_wp2_with fail;refine (HC.out _).mono ?_;rintro e w1 ⟨rfl,rfl⟩;go_wp2_with fail;go_roundw
     case rel=>exact ⟨q+1,by omega,by go_num,HQ.out.trans HST.out,by first|rfl|trivial⟩
     case measure=>simp [intOf];omega
    | false=>
     rw [h1] at hc hsp;have HC:=hQz hc;have HSP:=hQz (HQ.out.trans (hsp rfl));clear hst hsp hc h1;go_wp2_with fail;refine (HC.out _).mono ?_;rintro e w1 ⟨rfl,rfl⟩;go_wp2_with fail;go_ret;exact ⟨by rw [HSP.out];first|done|rfl,rfl⟩
  · have hi1:¬ (q:Int)<(s.size:Int):=by omega
    have HE:Hid (bhP blB l p=q):=by
     show _=_;rw [HQ.out,show q=l.length by rw [HL.out];omega,q2p]
    go_wp2_with fail;go_ret;exact ⟨by rw [HE.out];first|done|rfl,rfl⟩
theorem w_bhName (s:ByteArray) (p:Nat) (w:World) (hp:p≤s.size) (hs:s.size≤140737488355328):
 Calls Tryz.prog 94 #[.string s,.int .i64 (p:Int),.func (.func 125) #[] #[]] w fun e w'=>e= .returned (.int .i64 ((bhP inB s.data.toList p:Nat):Int))∧w'=w:=by
 obtain ⟨l,hl⟩:∃ l,l=s.data.toList:=⟨_,rfl⟩;have HL:Hid (l.length=s.size):=by show _=_;rw [hl];exact q0d s
 have HG:Hid (∀ q (h:q<s.size),l.getD q 0=s[q]):=fun q h=>by rw [hl];exact q0v h
 rw [← hl];clear hl;go_in;go_wp2_with fail
 go_loopw [1] (fun a wr=>∃ q:Nat,q≤s.size∧a= .int .i64 (q:Int)∧Hid (bhP inB l p=bhP inB l q)∧wr=w) (fun a _=>s.size-(intOf a).toNat)
 case atStart=>exact ⟨p,hp,rfl,rfl,rfl⟩
 case round=>
  obtain ⟨q,hq,rfl,HQ,rfl⟩:=hrel;by_cases hlt:q<s.size
  · have hi1:(q:Int)<(s.size:Int):=by omega
    have hi0:(0:Int)≤(q:Int):=by omega
    have hi2:¬ (s.size:Int)≤(q:Int):=by omega
    have hc:=fun u=>w_wInName s[q] u;have hst:=q1B (P:=inB) (l:=l) (p:=q) (by rw [HL.out];exact hlt);have hsp:=q1E (P:=inB) (l:=l) (p:=q) (by rw [HL.out];exact hlt);rw [HG.out q hlt] at hst hsp
    cases h1:inB s[q] with
    | true=>
     rw [h1] at hc hst;have HC:=hQz hc;have HST:=hQz (hst rfl);clear hst hsp hc h1;go_wp2_with fail;refine (HC.out _).mono ?_;rintro e w1 ⟨rfl,rfl⟩;go_wp2_with fail;go_roundw
     case rel=>exact ⟨q+1,by omega,by go_num,HQ.out.trans HST.out,by first|rfl|trivial⟩
     case measure=>simp [intOf];omega
    | false=>
     rw [h1] at hc hsp;have HC:=hQz hc;have HSP:=hQz (HQ.out.trans (hsp rfl));clear hst hsp hc h1;go_wp2_with fail;refine (HC.out _).mono ?_;rintro e w1 ⟨rfl,rfl⟩;go_wp2_with fail;go_ret;exact ⟨by rw [HSP.out];first|done|rfl,rfl⟩
  · have hi1:¬ (q:Int)<(s.size:Int):=by omega
    have HE:Hid (bhP inB l p=q):=by
     show _=_;rw [HQ.out,show q=l.length by rw [HL.out];omega,q2p]
    go_wp2_with fail;go_ret;exact ⟨by rw [HE.out];first|done|rfl,rfl⟩
theorem w_bhNumber (s:ByteArray) (p:Nat) (w:World) (hp:p≤s.size) (hs:s.size≤140737488355328):
 Calls Tryz.prog 94 #[.string s,.int .i64 (p:Int),.func (.func 148) #[] #[]] w fun e w'=>e= .returned (.int .i64 ((bhP nuB s.data.toList p:Nat):Int))∧w'=w:=by
 obtain ⟨l,hl⟩:∃ l,l=s.data.toList:=⟨_,rfl⟩;have HL:Hid (l.length=s.size):=by show _=_;rw [hl];exact q0d s
 have HG:Hid (∀ q (h:q<s.size),l.getD q 0=s[q]):=fun q h=>by rw [hl];exact q0v h
 rw [← hl];clear hl;go_in;go_wp2_with fail
 go_loopw [1] (fun a wr=>∃ q:Nat,q≤s.size∧a= .int .i64 (q:Int)∧Hid (bhP nuB l p=bhP nuB l q)∧wr=w) (fun a _=>s.size-(intOf a).toNat)
 case atStart=>exact ⟨p,hp,rfl,rfl,rfl⟩
 case round=>
  obtain ⟨q,hq,rfl,HQ,rfl⟩:=hrel;by_cases hlt:q<s.size
  · have hi1:(q:Int)<(s.size:Int):=by omega
    have hi0:(0:Int)≤(q:Int):=by omega
    have hi2:¬ (s.size:Int)≤(q:Int):=by omega
    have hc:=fun u=>w_wInNumber s[q] u;have hst:=q1B (P:=nuB) (l:=l) (p:=q) (by rw [HL.out];exact hlt);have hsp:=q1E (P:=nuB) (l:=l) (p:=q) (by rw [HL.out];exact hlt);rw [HG.out q hlt] at hst hsp
    cases h1:nuB s[q] with
    | true=>
     rw [h1] at hc hst;have HC:=hQz hc;have HST:=hQz (hst rfl);clear hst hsp hc h1;go_wp2_with fail;refine (HC.out _).mono ?_;rintro e w1 ⟨rfl,rfl⟩;go_wp2_with fail;go_roundw
     case rel=>exact ⟨q+1,by omega,by go_num,HQ.out.trans HST.out,by first|rfl|trivial⟩
     case measure=>simp [intOf];omega
    | false=>
     rw [h1] at hc hsp;have HC:=hQz hc;have HSP:=hQz (HQ.out.trans (hsp rfl));clear hst hsp hc h1;go_wp2_with fail;refine (HC.out _).mono ?_;rintro e w1 ⟨rfl,rfl⟩;go_wp2_with fail;go_ret;exact ⟨by rw [HSP.out];first|done|rfl,rfl⟩
  · have hi1:¬ (q:Int)<(s.size:Int):=by omega
    have HE:Hid (bhP nuB l p=q):=by
     show _=_;rw [HQ.out,show q=l.length by rw [HL.out];omega,q2p]
    go_wp2_with fail;go_ret;exact ⟨by rw [HE.out];first|done|rfl,rfl⟩
theorem w_bhRemark (s:ByteArray) (p:Nat) (w:World) (hp:p≤s.size) (hs:s.size≤140737488355328):
 Calls Tryz.prog 94 #[.string s,.int .i64 (p:Int),.func (.func 96) #[] #[]] w fun e w'=>e= .returned (.int .i64 ((bhP rmB s.data.toList p:Nat):Int))∧w'=w:=by
 obtain ⟨l,hl⟩:∃ l,l=s.data.toList:=⟨_,rfl⟩;have HL:Hid (l.length=s.size):=by show _=_;rw [hl];exact q0d s
 have HG:Hid (∀ q (h:q<s.size),l.getD q 0=s[q]):=fun q h=>by rw [hl];exact q0v h
 rw [← hl];clear hl;go_in;go_wp2_with fail
 go_loopw [1] (fun a wr=>∃ q:Nat,q≤s.size∧a= .int .i64 (q:Int)∧Hid (bhP rmB l p=bhP rmB l q)∧wr=w) (fun a _=>s.size-(intOf a).toNat)
 case atStart=>exact ⟨p,hp,rfl,rfl,rfl⟩
 case round=>
  obtain ⟨q,hq,rfl,HQ,rfl⟩:=hrel;by_cases hlt:q<s.size
  · have hi1:(q:Int)<(s.size:Int):=by omega
    have hi0:(0:Int)≤(q:Int):=by omega
    have hi2:¬ (s.size:Int)≤(q:Int):=by omega
    have hc:=fun u=>w_wRemark s[q] u;have hst:=q1B (P:=rmB) (l:=l) (p:=q) (by rw [HL.out];exact hlt);have hsp:=q1E (P:=rmB) (l:=l) (p:=q) (by rw [HL.out];exact hlt);rw [HG.out q hlt] at hst hsp
    cases h1:rmB s[q] with
    | true=>
     rw [h1] at hc hst;have HC:=hQz hc;have HST:=hQz (hst rfl);clear hst hsp hc h1;go_wp2_with fail;refine (HC.out _).mono ?_;rintro e w1 ⟨rfl,rfl⟩;go_wp2_with fail;go_roundw
     case rel=>exact ⟨q+1,by omega,by go_num,HQ.out.trans HST.out,by first|rfl|trivial⟩
     case measure=>simp [intOf];omega
    | false=>
     rw [h1] at hc hsp;have HC:=hQz hc;have HSP:=hQz (HQ.out.trans (hsp rfl));clear hst hsp hc h1;go_wp2_with fail;refine (HC.out _).mono ?_;rintro e w1 ⟨rfl,rfl⟩;go_wp2_with fail;go_ret;exact ⟨by rw [HSP.out];first|done|rfl,rfl⟩
  · have hi1:¬ (q:Int)<(s.size:Int):=by omega
    have HE:Hid (bhP rmB l p=q):=by
     show _=_;rw [HQ.out,show q=l.length by rw [HL.out];omega,q2p]
    go_wp2_with fail;go_ret;exact ⟨by rw [HE.out];first|done|rfl,rfl⟩
theorem w_bhPiece (s:ByteArray) (p:Nat) (w:World) (hp:p≤s.size) (hs:s.size≤140737488355328):
 Calls Tryz.prog 94 #[.string s,.int .i64 (p:Int),.func (.func 189) #[] #[]] w fun e w'=>e= .returned (.int .i64 ((bhP piB s.data.toList p:Nat):Int))∧w'=w:=by
 obtain ⟨l,hl⟩:∃ l,l=s.data.toList:=⟨_,rfl⟩;have HL:Hid (l.length=s.size):=by show _=_;rw [hl];exact q0d s
 have HG:Hid (∀ q (h:q<s.size),l.getD q 0=s[q]):=fun q h=>by rw [hl];exact q0v h
 rw [← hl];clear hl;go_in;go_wp2_with fail
 go_loopw [1] (fun a wr=>∃ q:Nat,q≤s.size∧a= .int .i64 (q:Int)∧Hid (bhP piB l p=bhP piB l q)∧wr=w) (fun a _=>s.size-(intOf a).toNat)
 case atStart=>exact ⟨p,hp,rfl,rfl,rfl⟩
 case round=>
  obtain ⟨q,hq,rfl,HQ,rfl⟩:=hrel;by_cases hlt:q<s.size
  · have hi1:(q:Int)<(s.size:Int):=by omega
    have hi0:(0:Int)≤(q:Int):=by omega
    have hi2:¬ (s.size:Int)≤(q:Int):=by omega
    have hc:=fun u=>w_wPiece s[q] u;have hst:=q1B (P:=piB) (l:=l) (p:=q) (by rw [HL.out];exact hlt);have hsp:=q1E (P:=piB) (l:=l) (p:=q) (by rw [HL.out];exact hlt);rw [HG.out q hlt] at hst hsp
    cases h1:piB s[q] with
    | true=>
     rw [h1] at hc hst;have HC:=hQz hc;have HST:=hQz (hst rfl);clear hst hsp hc h1;go_wp2_with fail;refine (HC.out _).mono ?_;rintro e w1 ⟨rfl,rfl⟩;go_wp2_with fail;go_roundw
     case rel=>exact ⟨q+1,by omega,by go_num,HQ.out.trans HST.out,by first|rfl|trivial⟩
     case measure=>simp [intOf];omega
    | false=>
     rw [h1] at hc hsp;have HC:=hQz hc;have HSP:=hQz (HQ.out.trans (hsp rfl));clear hst hsp hc h1;go_wp2_with fail;refine (HC.out _).mono ?_;rintro e w1 ⟨rfl,rfl⟩;go_wp2_with fail;go_ret;exact ⟨by rw [HSP.out];first|done|rfl,rfl⟩
  · have hi1:¬ (q:Int)<(s.size:Int):=by omega
    have HE:Hid (bhP piB l p=q):=by
     show _=_;rw [HQ.out,show q=l.length by rw [HL.out];omega,q2p]
    go_wp2_with fail;go_ret;exact ⟨by rw [HE.out];first|done|rfl,rfl⟩
theorem w_wOwn (n:ByteArray) (w:World):
 Calls Tryz.prog 146 #[.string n] w fun e w'=>e= .returned (.bool (ownB n.data.toList))∧w'=w:=by
 by_cases h0:n.data.toList=[100,101,102]
 · have HT:ownB n.data.toList=true:=by rw [h0];decide
   rw [HT];have g0:(n.toList==[100,101,102])=true:=by rw [Lib.toList_data,h0];rfl
   clear HT h0;go_in;go_wp2_with fail;go_ret;exact ⟨rfl,rfl⟩
 have g0:(n.toList==[100,101,102])=false:=by rw [Lib.toList_data,bqZ];exact h0
 have b0:=bqZ.2 h0;clear h0;by_cases h1:n.data.toList=[105,102]
 · have HT:ownB n.data.toList=true:=by rw [h1];decide
   rw [HT];have g1:(n.toList==[105,102])=true:=by rw [Lib.toList_data,h1];rfl
   clear HT h1;go_in;go_wp2_with fail;go_ret;exact ⟨rfl,rfl⟩
 have g1:(n.toList==[105,102])=false:=by rw [Lib.toList_data,bqZ];exact h1
 have b1:=bqZ.2 h1;clear h1;by_cases h2:n.data.toList=[116,104,101,110]
 · have HT:ownB n.data.toList=true:=by rw [h2];decide
   rw [HT];have g2:(n.toList==[116,104,101,110])=true:=by rw [Lib.toList_data,h2];rfl
   clear HT h2;go_in;go_wp2_with fail;go_ret;exact ⟨rfl,rfl⟩
 have g2:(n.toList==[116,104,101,110])=false:=by rw [Lib.toList_data,bqZ];exact h2
 have b2:=bqZ.2 h2;clear h2;by_cases h3:n.data.toList=[101,108,105,102]
 · have HT:ownB n.data.toList=true:=by rw [h3];decide
   rw [HT];have g3:(n.toList==[101,108,105,102])=true:=by rw [Lib.toList_data,h3];rfl
   clear HT h3;go_in;go_wp2_with fail;go_ret;exact ⟨rfl,rfl⟩
 have g3:(n.toList==[101,108,105,102])=false:=by rw [Lib.toList_data,bqZ];exact h3
 have b3:=bqZ.2 h3;clear h3;by_cases h4:n.data.toList=[101,108,115,101]
 · have HT:ownB n.data.toList=true:=by rw [h4];decide
   rw [HT];have g4:(n.toList==[101,108,115,101])=true:=by rw [Lib.toList_data,h4];rfl
   clear HT h4;go_in;go_wp2_with fail;go_ret;exact ⟨rfl,rfl⟩
 have g4:(n.toList==[101,108,115,101])=false:=by rw [Lib.toList_data,bqZ];exact h4
 have b4:=bqZ.2 h4;clear h4;by_cases h5:n.data.toList=[101,110,100]
 · have HT:ownB n.data.toList=true:=by rw [h5];decide
   rw [HT];have g5:(n.toList==[101,110,100])=true:=by rw [Lib.toList_data,h5];rfl
   clear HT h5;go_in;go_wp2_with fail;go_ret;exact ⟨rfl,rfl⟩
 have g5:(n.toList==[101,110,100])=false:=by rw [Lib.toList_data,bqZ];exact h5
 have b5:=bqZ.2 h5;clear h5;by_cases h6:n.data.toList=[97,115]
 · have HT:ownB n.data.toList=true:=by rw [h6];decide
   rw [HT];have g6:(n.toList==[97,115])=true:=by rw [Lib.toList_data,h6];rfl
   clear HT h6;go_in;go_wp2_with fail;go_ret;exact ⟨rfl,rfl⟩
 have g6:(n.toList==[97,115])=false:=by rw [Lib.toList_data,bqZ];exact h6
 have b6:=bqZ.2 h6;clear h6;by_cases h7:n.data.toList=[114,101,100,117,99,101]
 · have HT:ownB n.data.toList=true:=by rw [h7];decide
   rw [HT];have g7:(n.toList==[114,101,100,117,99,101])=true:=by rw [Lib.toList_data,h7];rfl
   clear HT h7;go_in;go_wp2_with fail;go_ret;exact ⟨rfl,rfl⟩
 have g7:(n.toList==[114,101,100,117,99,101])=false:=by rw [Lib.toList_data,bqZ];exact h7
 have b7:=bqZ.2 h7;clear h7;by_cases h8:n.data.toList=[102,111,114,101,97,99,104]
 · have HT:ownB n.data.toList=true:=by rw [h8];decide
   rw [HT];have g8:(n.toList==[102,111,114,101,97,99,104])=true:=by rw [Lib.toList_data,h8];rfl
   clear HT h8;go_in;go_wp2_with fail;go_ret;exact ⟨rfl,rfl⟩
 have g8:(n.toList==[102,111,114,101,97,99,104])=false:=by rw [Lib.toList_data,bqZ];exact h8
 have b8:=bqZ.2 h8;clear h8;by_cases h9:n.data.toList=[116,114,121]
 · have HT:ownB n.data.toList=true:=by rw [h9];decide
   rw [HT];have g9:(n.toList==[116,114,121])=true:=by rw [Lib.toList_data,h9];rfl
   clear HT h9;go_in;go_wp2_with fail;go_ret;exact ⟨rfl,rfl⟩
 have g9:(n.toList==[116,114,121])=false:=by rw [Lib.toList_data,bqZ];exact h9
 have b9:=bqZ.2 h9;clear h9;by_cases h10:n.data.toList=[99,97,116,99,104]
 · have HT:ownB n.data.toList=true:=by rw [h10];decide
   rw [HT];have g10:(n.toList==[99,97,116,99,104])=true:=by rw [Lib.toList_data,h10];rfl
   clear HT h10;go_in;go_wp2_with fail;go_ret;exact ⟨rfl,rfl⟩
 have g10:(n.toList==[99,97,116,99,104])=false:=by rw [Lib.toList_data,bqZ];exact h10
 have b10:=bqZ.2 h10;clear h10;by_cases h11:n.data.toList=[97,110,100]
 · have HT:ownB n.data.toList=true:=by rw [h11];decide
   rw [HT];have g11:(n.toList==[97,110,100])=true:=by rw [Lib.toList_data,h11];rfl
   clear HT h11;go_in;go_wp2_with fail;go_ret;exact ⟨rfl,rfl⟩
 have g11:(n.toList==[97,110,100])=false:=by rw [Lib.toList_data,bqZ];exact h11
 have b11:=bqZ.2 h11;clear h11;by_cases h12:n.data.toList=[111,114]
 · have HT:ownB n.data.toList=true:=by rw [h12];decide
   rw [HT];have g12:(n.toList==[111,114])=true:=by rw [Lib.toList_data,h12];rfl
   clear HT h12;go_in;go_wp2_with fail;go_ret;exact ⟨rfl,rfl⟩
 have g12:(n.toList==[111,114])=false:=by rw [Lib.toList_data,bqZ];exact h12
 have b12:=bqZ.2 h12;clear h12;by_cases h13:n.data.toList=[108,97,98,101,108]
 · have HT:ownB n.data.toList=true:=by rw [h13];decide
   rw [HT];have g13:(n.toList==[108,97,98,101,108])=true:=by rw [Lib.toList_data,h13];rfl
   clear HT h13;go_in;go_wp2_with fail;go_ret;exact ⟨rfl,rfl⟩
 have g13:(n.toList==[108,97,98,101,108])=false:=by rw [Lib.toList_data,bqZ];exact h13
 have b13:=bqZ.2 h13;clear h13;by_cases h14:n.data.toList=[98,114,101,97,107]
 · have HT:ownB n.data.toList=true:=by rw [h14];decide
   rw [HT];have g14:(n.toList==[98,114,101,97,107])=true:=by rw [Lib.toList_data,h14];rfl
   clear HT h14;go_in;go_wp2_with fail;go_ret;exact ⟨rfl,rfl⟩
 have g14:(n.toList==[98,114,101,97,107])=false:=by rw [Lib.toList_data,bqZ];exact h14
 have b14:=bqZ.2 h14;clear h14;by_cases h15:n.data.toList=[110,117,108,108]
 · have HT:ownB n.data.toList=true:=by rw [h15];decide
   rw [HT];have g15:(n.toList==[110,117,108,108])=true:=by rw [Lib.toList_data,h15];rfl
   clear HT h15;go_in;go_wp2_with fail;go_ret;exact ⟨rfl,rfl⟩
 have g15:(n.toList==[110,117,108,108])=false:=by rw [Lib.toList_data,bqZ];exact h15
 have b15:=bqZ.2 h15;clear h15;by_cases h16:n.data.toList=[116,114,117,101]
 · have HT:ownB n.data.toList=true:=by rw [h16];decide
   rw [HT];have g16:(n.toList==[116,114,117,101])=true:=by rw [Lib.toList_data,h16];rfl
   clear HT h16;go_in;go_wp2_with fail;go_ret;exact ⟨rfl,rfl⟩
 have g16:(n.toList==[116,114,117,101])=false:=by rw [Lib.toList_data,bqZ];exact h16
 have b16:=bqZ.2 h16;clear h16;by_cases h17:n.data.toList=[102,97,108,115,101]
 · have HT:ownB n.data.toList=true:=by rw [h17];decide
   rw [HT];have g17:(n.toList==[102,97,108,115,101])=true:=by rw [Lib.toList_data,h17];rfl
   clear HT h17;go_in;go_wp2_with fail;go_ret;exact ⟨rfl,rfl⟩
 have g17:(n.toList==[102,97,108,115,101])=false:=by rw [Lib.toList_data,bqZ];exact h17
 have b17:=bqZ.2 h17;clear h17
 have HT:ownB n.data.toList=false:=by
  unfold ownB;simp only [ownL,List.cons_append,List.nil_append,List.contains_cons,List.contains_nil,b0,b1,b2,b3,b4,b5,b6,b7,b8,b9,b10,b11,b12,b13,b14,b15,b16,b17,Bool.or_false]
 rw [HT];clear HT b0 b1 b2 b3 b4 b5 b6 b7 b8 b9 b10 b11 b12 b13 b14 b15 b16 b17;go_in;go_wp2_with fail;go_ret;exact ⟨rfl,rfl⟩
theorem ext_cut (s:ByteArray) (a b:Nat) (hb:b≤s.size):s.extract a b=⟨(cut s.data.toList a b).toArray⟩:=by
 have h:=q1W s a b hb;have e:(s.extract a b).data=(cut s.data.toList a b).toArray:=by rw [← h]
 cases hx:s.extract a b with
 | mk d=>rw [hx] at e;exact congrArg ByteArray.mk e
theorem arr_lst (x:List UInt8):(⟨x.toArray⟩:ByteArray).data.toList=x:=rfl
theorem q1F (x:List UInt8):(⟨x.toArray⟩:ByteArray).size=x.length:=by show x.toArray.size=_;simp
theorem cut_len {l:List UInt8} {a b:Nat} (hb:b≤l.length):(cut l a b).length=b-a:=by unfold cut;simp;omega
theorem q26 {l:List UInt8} {p:Nat} (hp:p≤l.length):p+(q0A l p).length≤l.length:=by
 unfold q0A
 split
 · next h=>
   have:=q1G inB hp;rw [cut_len this.2];omega
 · simpa using hp
theorem q11 (s:ByteArray) (p:Nat) (w:World) (hp:p≤s.size) (hs:s.size≤140737488355328):
 Calls Tryz.prog 64 #[.string s,.int .i64 (p:Int)] w fun e w'=>e= .returned (.string ⟨(q0A s.data.toList p).toArray⟩)∧w'=w:=by
 by_cases he:p=s.size
 · have HN:Hid (q0A s.data.toList p=[]):=by show _=_;unfold q0A;rw [if_neg (by rw [q0d];omega)]
   have hq:((p:Int)==(s.size:Int))=true:=by rw [he];simp
   clear he;go_in;go_wp2_with fail;go_ret;exact ⟨by rw [HN.out];first|done|rfl,rfl⟩
 · have hlt:p<s.size:=by omega
   have hq:((p:Int)==(s.size:Int))=false:=by rw [bqZ];omega
   have hi0:(0:Int)≤(p:Int):=by omega
   have hi1:(p:Int)<(s.size:Int):=by omega
   have hc:=fun u=>q0X s[p] u;have hd:=q0v hlt
   cases h1:leB s[p] with
   | false=>
    rw [h1] at hc;have HC:=hQz hc;have HN:Hid (q0A s.data.toList p=[]):=by show _=_;unfold q0A;rw [if_neg (by rw [hd,h1];simp)]
    clear he hc hd h1;go_in;go_wp2_with fail;refine (HC.out _).mono ?_;rintro e w1 ⟨rfl,hw1⟩;obtain rfl:=hw1.symm;go_wp2_with fail;go_ret;exact ⟨by rw [HN.out];first|done|rfl,rfl⟩
   | true=>
    rw [h1] at hc;have HC:=hQz hc;have HBh:=hQz (fun u=>w_bhName s p u hp hs);have hbe:=q1G inB (l:=s.data.toList) (p:=p) (by rw [q0d];omega);have HN:Hid (q0A s.data.toList p=cut s.data.toList p (bhP inB s.data.toList p)):=by show _=_;unfold q0A;rw [if_pos ⟨by rw [q0d];exact hlt,by rw [hd,h1]⟩]
    have HX:=hQz (ext_cut s p (bhP inB s.data.toList p) (by rw [← q0d];exact hbe.2));rw [q0d] at hbe;generalize bhP inB s.data.toList p=q at *;obtain ⟨hpq,hqs⟩:=hbe;have hj1:(p:Int)≤(q:Int):=by omega
    have hj2:(q:Int)≤(s.size:Int):=by omega
    clear he hc hd h1;go_in;go_wp2_with fail;refine (HC.out _).mono ?_;rintro e w1 ⟨rfl,hw1⟩;obtain rfl:=hw1.symm;go_wp2_with fail;refine (HBh.out _).mono ?_;rintro e w1 ⟨rfl,hw1⟩;obtain rfl:=hw1.symm;go_wp2_with fail;go_ret;exact ⟨by rw [HN.out,← HX.out];first|done|rfl,rfl⟩
theorem named_lst (s:ByteArray):q2k s.data.toList=(!(s.toList==[])&&((⟨(q0A s.data.toList 0).toArray⟩:ByteArray).toList==s.toList)):=by
 unfold q2k;rw [Lib.toList_data,Lib.toList_data];show _=(!(s.data.toList==[])&&(q0A s.data.toList 0==s.data.toList));generalize s.data.toList=l;by_cases h1:l=[]
 · subst h1;simp
 · by_cases h2:q0A l 0=l
   · rw [decide_eq_true ⟨h1,h2⟩,h2,bqZ.2 h1];simp
   · rw [decide_eq_false (fun h=>h2 h.2),bqZ.2 h2];simp
theorem w_Named (s:ByteArray) (w:World) (hs:s.size≤140737488355328):
 Calls Tryz.prog 35 #[.string s] w fun e w'=>e= .returned (.bool (q2k s.data.toList))∧w'=w:=by
 have HN:=hQz (fun u=>q11 s 0 u (Nat.zero_le _) hs);rw [named_lst];generalize (⟨(q0A s.data.toList 0).toArray⟩:ByteArray)=nm at *;by_cases h0:s.toList=[]
 · have e1:(s.toList==[])=true:=by rw [h0];rfl
   have e2:s.toList.isEmpty=true:=by rw [h0];rfl
   rw [e1];clear HN;go_in;go_wp2_with fail;go_ret;exact ⟨rfl,rfl⟩
 · have e1:(s.toList==[])=false:=bqZ.2 h0;have e2:s.toList.isEmpty=false:=by simp [h0]
   rw [e1];go_in;go_wp2_with fail;refine (HN.out _).mono ?_;rintro e w1 ⟨rfl,hw1⟩;obtain rfl:=hw1.symm;go_wp2_with fail;go_ret;exact ⟨by simp,rfl⟩
theorem w_Plain (s:ByteArray) (w:World) (hs:s.size≤140737488355328):
 Calls Tryz.prog 132 #[.string s] w fun e w'=>e= .returned (.bool (q0Y s.data.toList))∧w'=w:=by
 have HN:=hQz (fun u=>w_Named s u hs);have HO:=hQz (fun u=>w_wOwn s u);unfold q0Y
 cases h1:q2k s.data.toList with
 | false=>
  rw [h1] at HN;clear h1;go_in;go_wp2_with fail;refine (HN.out _).mono ?_;rintro e w1 ⟨rfl,hw1⟩;obtain rfl:=hw1.symm;go_wp2_with fail;go_ret;exact ⟨rfl,rfl⟩
 | true=>
  rw [h1] at HN;clear h1;generalize ownB s.data.toList=b2 at *;go_in;go_wp2_with fail;refine (HN.out _).mono ?_;rintro e w1 ⟨rfl,hw1⟩;obtain rfl:=hw1.symm;go_wp2_with fail;refine (HO.out _).mono ?_;rintro e w1 ⟨rfl,hw1⟩;obtain rfl:=hw1.symm;go_wp2_with fail;go_ret;exact ⟨by cases b2 <;> rfl,rfl⟩
theorem w_literalW (x:ByteArray) (b:Bool) (w:World) (hs:x.size≤140737488355328):
 Calls Tryz.prog 152 #[.string x,.bool b] w fun e w'=>e= .returned (.string ⟨(litW x.data.toList b).toArray⟩)∧w'=w:=by
 have h1:¬ 9223372036854775807<(⟨#[34]⟩:ByteArray).size+x.size:=by show ¬ _<1+x.size;omega
 have h2:¬ (9223372036854775807:Int)<((⟨#[34]⟩:ByteArray).size:Int)+(x.size:Int):=by show ¬ _<((1:Nat):Int)+(x.size:Int);omega
 have hz:((⟨#[34]⟩:ByteArray)++x).size=1+x.size:=by rw [ByteArray.size_append];rfl
 have h3:¬ 9223372036854775807<((⟨#[34]⟩:ByteArray)++x).size+(⟨#[34]⟩:ByteArray).size:=by rw [hz];show ¬ _<1+x.size+1;omega
 have h4:¬ (9223372036854775807:Int)<(((⟨#[34]⟩:ByteArray)++x).size:Int)+((⟨#[34]⟩:ByteArray).size:Int):=by rw [hz];show ¬ _<((1+x.size:Nat):Int)+((1:Nat):Int);omega
 have HX:Hid ((⟨#[34]⟩:ByteArray)++x=⟨(litW x.data.toList false).toArray⟩∧((⟨#[34]⟩:ByteArray)++x)++⟨#[34]⟩=⟨(litW x.data.toList true).toArray⟩):=by
  constructor
  · apply ByteArray.ext;rw [ByteArray.data_append];apply Array.ext';rw [Array.toList_append];unfold litW;simp
  · apply ByteArray.ext;rw [ByteArray.data_append,ByteArray.data_append];apply Array.ext';rw [Array.toList_append,Array.toList_append];unfold litW;simp
 clear hz
 cases b
 · go_in;go_wp2_with fail;go_ret;exact ⟨by rw [← HX.out.1];first|done|rfl,rfl⟩
 · go_in;go_wp2_with fail;go_ret;exact ⟨by rw [← HX.out.2];first|done|rfl,rfl⟩
theorem w_wfault (p e:Int) (w:World):
 Calls Tryz.prog 147 #[.int .i64 p,.int .i64 e] w fun en w'=>en= .returned (.tuple #[.agg #[.int .i64 0,.int .i64 p,.int .i64 0,.string ⟨#[]⟩],.int .i64 e])∧Below w.heap.size w w':=by
 have HB:=hQz (q0a w (.cells #[.int .i64 0,.int .i64 p,.int .i64 0,.string ⟨#[]⟩] 82));go_in;go_wp2_with fail;(try simp only [Exit.inBlock,Exit.then])
 refine bodyPost_ret (v:= .tuple #[.agg #[.int .i64 0,.int .i64 p,.int .i64 0,.string ⟨#[]⟩],.int .i64 e]) (by simp [results,Tryz.results147,go_sem]) rfl ?_;exact ⟨rfl,HB.out⟩
def CtB (w:World) (C:Nat) (s:ByteArray) (v:Value):Prop:=w.heap[C]? =some (.cells #[.string s,v] 79 (0,0))
theorem CtB.low {w w':World} {n C:Nat} {s:ByteArray} {v:Value} (h:CtB w C s v) (hb:Below n w w') (hC:C<n):CtB w' C s v:=q0y hb hC h
theorem CtB.lt {w:World} {C:Nat} {s:ByteArray} {v:Value} (h:CtB w C s v):C<w.heap.size:=(Array.getElem?_eq_some_iff.1 h).1
theorem CtB.c0 {w:World} {C:Nat} {s:ByteArray} {v:Value} (h:CtB w C s v):w.cell? ⟨C,0,none⟩=some (.string s):=by rw [cell_of_row _ _ 0 _ _ _ h];rfl
theorem CtB.c1 {w:World} {C:Nat} {s:ByteArray} {v:Value} (h:CtB w C s v):w.cell? ⟨C,1,none⟩=some v:=by rw [cell_of_row _ _ 1 _ _ _ h];rfl
theorem CtB.f1 {w:World} {C:Nat} {s:ByteArray} {v:Value} (h:CtB w C s v):w.frozen? ⟨C,1,none⟩=false:=q0f (j:=1) h
theorem w_cName (s:ByteArray) (p C:Nat) (v:Value) (w:World) (hp:p<s.size) (hs:s.size≤1099511627776) (hC:CtB w C s v):
 Calls Tryz.prog 98 #[.pointer (some ⟨C,0,none⟩),.int .i64 (p:Int)] w fun e w'=>TokR (nameT s.data.toList p) w w' e:=by
 have HN:=hQz (fun u=>q11 s p u (by omega) (by omega));have HO:=hQz (fun u=>w_wOwn ⟨(q0A s.data.toList p).toArray⟩ u);rw [arr_lst (q0A s.data.toList p)] at HO;have hln:=q26 (l:=s.data.toList) (p:=p) (by rw [q0d];omega);rw [q0d] at hln;have hsz:(⟨(q0A s.data.toList p).toArray⟩:ByteArray).size=(q0A s.data.toList p).length:=q1F _;unfold nameT TokR tokV;dsimp only;generalize q0A s.data.toList p=nm at *;obtain ⟨tb,htb⟩:∃ tb:ByteArray,(⟨nm.toArray⟩:ByteArray)=tb:=⟨_,rfl⟩;rw [htb] at HN HO hsz ⊢;have HSZ:=hQz hsz;clear htb;have HR:Hid (((nm.length:Nat):Int)=(tb.size:Int)):=by show _=_;rw [hsz]
 have hln2:p+tb.size≤s.size:=by rw [hsz];exact hln
 clear hsz hln
 cases ho:ownB nm with
 | false=>
  rw [ho] at HO;clear ho;have HC0:=hQz (hC.low (q0a w q0c) hC.lt);have c0:=HC0.out.c0;unfold q0c at c0;go_in;go_wp2_with fail;refine (HN.out _).mono ?_;rintro e w1 ⟨rfl,hw1⟩;obtain rfl:=hw1.symm;clear c0;go_wp2_with fail;refine (HO.out _).mono ?_;rintro e w1 ⟨rfl,hw1⟩;obtain rfl:=hw1.symm;obtain ⟨W,hW⟩:∃ W,w.alloc q0c=W:=⟨_,rfl⟩;have hX:=heap_alloc_new w q0c;rw [hW] at hX;have HX:=hQz hX;have hb:=q0a w q0c;rw [hW] at hb;have HB:=hQz hb;obtain ⟨kc0,kc1,kc2,kc3,kf0,kf1,kf2,kf3⟩:=q06 hX;unfold q0c at hW;rw [hW];clear hW hX hb;go_wp2_with fail;(try simp only [Exit.inBlock,Exit.then])
  generalize hz:((((W).setCell ⟨w.heap.size,0,none⟩ (.int .i64 1)).setCell ⟨w.heap.size,1,none⟩ (.int .i64 (p:Int))).setCell ⟨w.heap.size,2,none⟩ (.int .i64 ((p:Int)+(tb.size:Int)))).setCell ⟨w.heap.size,3,none⟩ (.string tb)=wz;obtain ⟨z1,z2,z3,z4⟩:=q0k _ _ _ _ _ _ _ _ _ _ _ HX.out wz hz.symm;obtain ⟨hd0,hd1,hd2,hd3,_⟩:=q06 z1;refine bodyPost_ret (v:= .tuple #[.agg #[.int .i64 1,.int .i64 (p:Int),.int .i64 ((p:Int)+(tb.size:Int)),.string tb],.int .i64 0]) (by simp [results,Tryz.results98,go_sem,hd0,hd1,hd2,hd3]) rfl ?_;exact ⟨by rw [HR.out];first|done|rfl,HB.out.trans (z4 _ (Nat.le_refl _))⟩
 | true=>
  rw [ho] at HO;clear ho;have HC0:=hQz (hC.low (q0a w q0c) hC.lt);have c0:=HC0.out.c0;unfold q0c at c0;go_in;go_wp2_with fail;refine (HN.out _).mono ?_;rintro e w1 ⟨rfl,hw1⟩;obtain rfl:=hw1.symm;clear c0;go_wp2_with fail;refine (HO.out _).mono ?_;rintro e w1 ⟨rfl,hw1⟩;obtain rfl:=hw1.symm;obtain ⟨W,hW⟩:∃ W,w.alloc q0c=W:=⟨_,rfl⟩;have hX:=heap_alloc_new w q0c;rw [hW] at hX;have HX:=hQz hX;have hb:=q0a w q0c;rw [hW] at hb;have HB:=hQz hb;obtain ⟨kc0,kc1,kc2,kc3,kf0,kf1,kf2,kf3⟩:=q06 hX;unfold q0c at hW;rw [hW];clear hW hX hb;go_wp2_with fail;(try simp only [Exit.inBlock,Exit.then])
  generalize hz:((((W).setCell ⟨w.heap.size,0,none⟩ (.int .i64 2)).setCell ⟨w.heap.size,1,none⟩ (.int .i64 (p:Int))).setCell ⟨w.heap.size,2,none⟩ (.int .i64 ((p:Int)+(tb.size:Int)))).setCell ⟨w.heap.size,3,none⟩ (.string tb)=wz;obtain ⟨z1,z2,z3,z4⟩:=q0k _ _ _ _ _ _ _ _ _ _ _ HX.out wz hz.symm;obtain ⟨hd0,hd1,hd2,hd3,_⟩:=q06 z1;refine bodyPost_ret (v:= .tuple #[.agg #[.int .i64 2,.int .i64 (p:Int),.int .i64 ((p:Int)+(tb.size:Int)),.string tb],.int .i64 0]) (by simp [results,Tryz.results98,go_sem,hd0,hd1,hd2,hd3]) rfl ?_;exact ⟨by rw [HR.out];first|done|rfl,HB.out.trans (z4 _ (Nat.le_refl _))⟩
theorem w_wMarked (n:ByteArray) (w:World):
 Calls Tryz.prog 192 #[.string n] w fun e w'=>e= .returned (.bool (mkB n.data.toList))∧w'=w:=by
 by_cases h0:n.data.toList=[47,47,61]
 · have HT:mkB n.data.toList=true:=by rw [h0];decide
   rw [HT];have g0:(n.toList==[47,47,61])=true:=by rw [Lib.toList_data,h0];rfl
   clear HT h0;go_in;go_wp2_with fail;go_ret;exact ⟨rfl,rfl⟩
 have g0:(n.toList==[47,47,61])=false:=by rw [Lib.toList_data,bqZ];exact h0
 have b0:=bqZ.2 h0;clear h0;by_cases h1:n.data.toList=[46,46]
 · have HT:mkB n.data.toList=true:=by rw [h1];decide
   rw [HT];have g1:(n.toList==[46,46])=true:=by rw [Lib.toList_data,h1];rfl
   clear HT h1;go_in;go_wp2_with fail;go_ret;exact ⟨rfl,rfl⟩
 have g1:(n.toList==[46,46])=false:=by rw [Lib.toList_data,bqZ];exact h1
 have b1:=bqZ.2 h1;clear h1;by_cases h2:n.data.toList=[124,61]
 · have HT:mkB n.data.toList=true:=by rw [h2];decide
   rw [HT];have g2:(n.toList==[124,61])=true:=by rw [Lib.toList_data,h2];rfl
   clear HT h2;go_in;go_wp2_with fail;go_ret;exact ⟨rfl,rfl⟩
 have g2:(n.toList==[124,61])=false:=by rw [Lib.toList_data,bqZ];exact h2
 have b2:=bqZ.2 h2;clear h2;by_cases h3:n.data.toList=[43,61]
 · have HT:mkB n.data.toList=true:=by rw [h3];decide
   rw [HT];have g3:(n.toList==[43,61])=true:=by rw [Lib.toList_data,h3];rfl
   clear HT h3;go_in;go_wp2_with fail;go_ret;exact ⟨rfl,rfl⟩
 have g3:(n.toList==[43,61])=false:=by rw [Lib.toList_data,bqZ];exact h3
 have b3:=bqZ.2 h3;clear h3;by_cases h4:n.data.toList=[45,61]
 · have HT:mkB n.data.toList=true:=by rw [h4];decide
   rw [HT];have g4:(n.toList==[45,61])=true:=by rw [Lib.toList_data,h4];rfl
   clear HT h4;go_in;go_wp2_with fail;go_ret;exact ⟨rfl,rfl⟩
 have g4:(n.toList==[45,61])=false:=by rw [Lib.toList_data,bqZ];exact h4
 have b4:=bqZ.2 h4;clear h4;by_cases h5:n.data.toList=[42,61]
 · have HT:mkB n.data.toList=true:=by rw [h5];decide
   rw [HT];have g5:(n.toList==[42,61])=true:=by rw [Lib.toList_data,h5];rfl
   clear HT h5;go_in;go_wp2_with fail;go_ret;exact ⟨rfl,rfl⟩
 have g5:(n.toList==[42,61])=false:=by rw [Lib.toList_data,bqZ];exact h5
 have b5:=bqZ.2 h5;clear h5;by_cases h6:n.data.toList=[47,61]
 · have HT:mkB n.data.toList=true:=by rw [h6];decide
   rw [HT];have g6:(n.toList==[47,61])=true:=by rw [Lib.toList_data,h6];rfl
   clear HT h6;go_in;go_wp2_with fail;go_ret;exact ⟨rfl,rfl⟩
 have g6:(n.toList==[47,61])=false:=by rw [Lib.toList_data,bqZ];exact h6
 have b6:=bqZ.2 h6;clear h6;by_cases h7:n.data.toList=[37,61]
 · have HT:mkB n.data.toList=true:=by rw [h7];decide
   rw [HT];have g7:(n.toList==[37,61])=true:=by rw [Lib.toList_data,h7];rfl
   clear HT h7;go_in;go_wp2_with fail;go_ret;exact ⟨rfl,rfl⟩
 have g7:(n.toList==[37,61])=false:=by rw [Lib.toList_data,bqZ];exact h7
 have b7:=bqZ.2 h7;clear h7;by_cases h8:n.data.toList=[61,61]
 · have HT:mkB n.data.toList=true:=by rw [h8];decide
   rw [HT];have g8:(n.toList==[61,61])=true:=by rw [Lib.toList_data,h8];rfl
   clear HT h8;go_in;go_wp2_with fail;go_ret;exact ⟨rfl,rfl⟩
 have g8:(n.toList==[61,61])=false:=by rw [Lib.toList_data,bqZ];exact h8
 have b8:=bqZ.2 h8;clear h8;by_cases h9:n.data.toList=[33,61]
 · have HT:mkB n.data.toList=true:=by rw [h9];decide
   rw [HT];have g9:(n.toList==[33,61])=true:=by rw [Lib.toList_data,h9];rfl
   clear HT h9;go_in;go_wp2_with fail;go_ret;exact ⟨rfl,rfl⟩
 have g9:(n.toList==[33,61])=false:=by rw [Lib.toList_data,bqZ];exact h9
 have b9:=bqZ.2 h9;clear h9;by_cases h10:n.data.toList=[60,61]
 · have HT:mkB n.data.toList=true:=by rw [h10];decide
   rw [HT];have g10:(n.toList==[60,61])=true:=by rw [Lib.toList_data,h10];rfl
   clear HT h10;go_in;go_wp2_with fail;go_ret;exact ⟨rfl,rfl⟩
 have g10:(n.toList==[60,61])=false:=by rw [Lib.toList_data,bqZ];exact h10
 have b10:=bqZ.2 h10;clear h10;by_cases h11:n.data.toList=[62,61]
 · have HT:mkB n.data.toList=true:=by rw [h11];decide
   rw [HT];have g11:(n.toList==[62,61])=true:=by rw [Lib.toList_data,h11];rfl
   clear HT h11;go_in;go_wp2_with fail;go_ret;exact ⟨rfl,rfl⟩
 have g11:(n.toList==[62,61])=false:=by rw [Lib.toList_data,bqZ];exact h11
 have b11:=bqZ.2 h11;clear h11;by_cases h12:n.data.toList=[47,47]
 · have HT:mkB n.data.toList=true:=by rw [h12];decide
   rw [HT];have g12:(n.toList==[47,47])=true:=by rw [Lib.toList_data,h12];rfl
   clear HT h12;go_in;go_wp2_with fail;go_ret;exact ⟨rfl,rfl⟩
 have g12:(n.toList==[47,47])=false:=by rw [Lib.toList_data,bqZ];exact h12
 have b12:=bqZ.2 h12;clear h12;by_cases h13:n.data.toList=[124]
 · have HT:mkB n.data.toList=true:=by rw [h13];decide
   rw [HT];have g13:(n.toList==[124])=true:=by rw [Lib.toList_data,h13];rfl
   clear HT h13;go_in;go_wp2_with fail;go_ret;exact ⟨rfl,rfl⟩
 have g13:(n.toList==[124])=false:=by rw [Lib.toList_data,bqZ];exact h13
 have b13:=bqZ.2 h13;clear h13;by_cases h14:n.data.toList=[44]
 · have HT:mkB n.data.toList=true:=by rw [h14];decide
   rw [HT];have g14:(n.toList==[44])=true:=by rw [Lib.toList_data,h14];rfl
   clear HT h14;go_in;go_wp2_with fail;go_ret;exact ⟨rfl,rfl⟩
 have g14:(n.toList==[44])=false:=by rw [Lib.toList_data,bqZ];exact h14
 have b14:=bqZ.2 h14;clear h14;by_cases h15:n.data.toList=[61]
 · have HT:mkB n.data.toList=true:=by rw [h15];decide
   rw [HT];have g15:(n.toList==[61])=true:=by rw [Lib.toList_data,h15];rfl
   clear HT h15;go_in;go_wp2_with fail;go_ret;exact ⟨rfl,rfl⟩
 have g15:(n.toList==[61])=false:=by rw [Lib.toList_data,bqZ];exact h15
 have b15:=bqZ.2 h15;clear h15;by_cases h16:n.data.toList=[60]
 · have HT:mkB n.data.toList=true:=by rw [h16];decide
   rw [HT];have g16:(n.toList==[60])=true:=by rw [Lib.toList_data,h16];rfl
   clear HT h16;go_in;go_wp2_with fail;go_ret;exact ⟨rfl,rfl⟩
 have g16:(n.toList==[60])=false:=by rw [Lib.toList_data,bqZ];exact h16
 have b16:=bqZ.2 h16;clear h16;by_cases h17:n.data.toList=[62]
 · have HT:mkB n.data.toList=true:=by rw [h17];decide
   rw [HT];have g17:(n.toList==[62])=true:=by rw [Lib.toList_data,h17];rfl
   clear HT h17;go_in;go_wp2_with fail;go_ret;exact ⟨rfl,rfl⟩
 have g17:(n.toList==[62])=false:=by rw [Lib.toList_data,bqZ];exact h17
 have b17:=bqZ.2 h17;clear h17;by_cases h18:n.data.toList=[43]
 · have HT:mkB n.data.toList=true:=by rw [h18];decide
   rw [HT];have g18:(n.toList==[43])=true:=by rw [Lib.toList_data,h18];rfl
   clear HT h18;go_in;go_wp2_with fail;go_ret;exact ⟨rfl,rfl⟩
 have g18:(n.toList==[43])=false:=by rw [Lib.toList_data,bqZ];exact h18
 have b18:=bqZ.2 h18;clear h18;by_cases h19:n.data.toList=[45]
 · have HT:mkB n.data.toList=true:=by rw [h19];decide
   rw [HT];have g19:(n.toList==[45])=true:=by rw [Lib.toList_data,h19];rfl
   clear HT h19;go_in;go_wp2_with fail;go_ret;exact ⟨rfl,rfl⟩
 have g19:(n.toList==[45])=false:=by rw [Lib.toList_data,bqZ];exact h19
 have b19:=bqZ.2 h19;clear h19;by_cases h20:n.data.toList=[42]
 · have HT:mkB n.data.toList=true:=by rw [h20];decide
   rw [HT];have g20:(n.toList==[42])=true:=by rw [Lib.toList_data,h20];rfl
   clear HT h20;go_in;go_wp2_with fail;go_ret;exact ⟨rfl,rfl⟩
 have g20:(n.toList==[42])=false:=by rw [Lib.toList_data,bqZ];exact h20
 have b20:=bqZ.2 h20;clear h20;by_cases h21:n.data.toList=[47]
 · have HT:mkB n.data.toList=true:=by rw [h21];decide
   rw [HT];have g21:(n.toList==[47])=true:=by rw [Lib.toList_data,h21];rfl
   clear HT h21;go_in;go_wp2_with fail;go_ret;exact ⟨rfl,rfl⟩
 have g21:(n.toList==[47])=false:=by rw [Lib.toList_data,bqZ];exact h21
 have b21:=bqZ.2 h21;clear h21;by_cases h22:n.data.toList=[37]
 · have HT:mkB n.data.toList=true:=by rw [h22];decide
   rw [HT];have g22:(n.toList==[37])=true:=by rw [Lib.toList_data,h22];rfl
   clear HT h22;go_in;go_wp2_with fail;go_ret;exact ⟨rfl,rfl⟩
 have g22:(n.toList==[37])=false:=by rw [Lib.toList_data,bqZ];exact h22
 have b22:=bqZ.2 h22;clear h22;by_cases h23:n.data.toList=[46]
 · have HT:mkB n.data.toList=true:=by rw [h23];decide
   rw [HT];have g23:(n.toList==[46])=true:=by rw [Lib.toList_data,h23];rfl
   clear HT h23;go_in;go_wp2_with fail;go_ret;exact ⟨rfl,rfl⟩
 have g23:(n.toList==[46])=false:=by rw [Lib.toList_data,bqZ];exact h23
 have b23:=bqZ.2 h23;clear h23;by_cases h24:n.data.toList=[40]
 · have HT:mkB n.data.toList=true:=by rw [h24];decide
   rw [HT];have g24:(n.toList==[40])=true:=by rw [Lib.toList_data,h24];rfl
   clear HT h24;go_in;go_wp2_with fail;go_ret;exact ⟨rfl,rfl⟩
 have g24:(n.toList==[40])=false:=by rw [Lib.toList_data,bqZ];exact h24
 have b24:=bqZ.2 h24;clear h24;by_cases h25:n.data.toList=[41]
 · have HT:mkB n.data.toList=true:=by rw [h25];decide
   rw [HT];have g25:(n.toList==[41])=true:=by rw [Lib.toList_data,h25];rfl
   clear HT h25;go_in;go_wp2_with fail;go_ret;exact ⟨rfl,rfl⟩
 have g25:(n.toList==[41])=false:=by rw [Lib.toList_data,bqZ];exact h25
 have b25:=bqZ.2 h25;clear h25;by_cases h26:n.data.toList=[91]
 · have HT:mkB n.data.toList=true:=by rw [h26];decide
   rw [HT];have g26:(n.toList==[91])=true:=by rw [Lib.toList_data,h26];rfl
   clear HT h26;go_in;go_wp2_with fail;go_ret;exact ⟨rfl,rfl⟩
 have g26:(n.toList==[91])=false:=by rw [Lib.toList_data,bqZ];exact h26
 have b26:=bqZ.2 h26;clear h26;by_cases h27:n.data.toList=[93]
 · have HT:mkB n.data.toList=true:=by rw [h27];decide
   rw [HT];have g27:(n.toList==[93])=true:=by rw [Lib.toList_data,h27];rfl
   clear HT h27;go_in;go_wp2_with fail;go_ret;exact ⟨rfl,rfl⟩
 have g27:(n.toList==[93])=false:=by rw [Lib.toList_data,bqZ];exact h27
 have b27:=bqZ.2 h27;clear h27;by_cases h28:n.data.toList=[123]
 · have HT:mkB n.data.toList=true:=by rw [h28];decide
   rw [HT];have g28:(n.toList==[123])=true:=by rw [Lib.toList_data,h28];rfl
   clear HT h28;go_in;go_wp2_with fail;go_ret;exact ⟨rfl,rfl⟩
 have g28:(n.toList==[123])=false:=by rw [Lib.toList_data,bqZ];exact h28
 have b28:=bqZ.2 h28;clear h28;by_cases h29:n.data.toList=[125]
 · have HT:mkB n.data.toList=true:=by rw [h29];decide
   rw [HT];have g29:(n.toList==[125])=true:=by rw [Lib.toList_data,h29];rfl
   clear HT h29;go_in;go_wp2_with fail;go_ret;exact ⟨rfl,rfl⟩
 have g29:(n.toList==[125])=false:=by rw [Lib.toList_data,bqZ];exact h29
 have b29:=bqZ.2 h29;clear h29;by_cases h30:n.data.toList=[58]
 · have HT:mkB n.data.toList=true:=by rw [h30];decide
   rw [HT];have g30:(n.toList==[58])=true:=by rw [Lib.toList_data,h30];rfl
   clear HT h30;go_in;go_wp2_with fail;go_ret;exact ⟨rfl,rfl⟩
 have g30:(n.toList==[58])=false:=by rw [Lib.toList_data,bqZ];exact h30
 have b30:=bqZ.2 h30;clear h30;by_cases h31:n.data.toList=[59]
 · have HT:mkB n.data.toList=true:=by rw [h31];decide
   rw [HT];have g31:(n.toList==[59])=true:=by rw [Lib.toList_data,h31];rfl
   clear HT h31;go_in;go_wp2_with fail;go_ret;exact ⟨rfl,rfl⟩
 have g31:(n.toList==[59])=false:=by rw [Lib.toList_data,bqZ];exact h31
 have b31:=bqZ.2 h31;clear h31;by_cases h32:n.data.toList=[63]
 · have HT:mkB n.data.toList=true:=by rw [h32];decide
   rw [HT];have g32:(n.toList==[63])=true:=by rw [Lib.toList_data,h32];rfl
   clear HT h32;go_in;go_wp2_with fail;go_ret;exact ⟨rfl,rfl⟩
 have g32:(n.toList==[63])=false:=by rw [Lib.toList_data,bqZ];exact h32
 have b32:=bqZ.2 h32;clear h32
 have HT:mkB n.data.toList=false:=by
  unfold mkB;simp only [mkL,mk2L,mk1L,List.cons_append,List.nil_append,List.contains_cons,List.contains_nil,b0,b1,b2,b3,b4,b5,b6,b7,b8,b9,b10,b11,b12,b13,b14,b15,b16,b17,b18,b19,b20,b21,b22,b23,b24,b25,b26,b27,b28,b29,b30,b31,b32,Bool.or_false]
 rw [HT];clear HT b0 b1 b2 b3 b4 b5 b6 b7 b8 b9 b10 b11 b12 b13 b14 b15 b16 b17 b18 b19 b20 b21 b22 b23 b24 b25 b26 b27 b28 b29 b30 b31 b32;go_in;go_wp2_with fail;go_ret;exact ⟨rfl,rfl⟩
end Go.Proofs.YtdjleoglphgdgaaGreatDoor
