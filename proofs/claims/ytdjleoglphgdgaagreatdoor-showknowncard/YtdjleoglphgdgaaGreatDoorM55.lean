import Derived.Test.YtdjleoglphgdgaaGreatDoorM52
import Derived.Test.YtdjleoglphgdgaaGreatDoorM53
import Derived.Test.YtdjleoglphgdgaaGreatDoorM54
import Derived.Test.YtdjleoglphgdgaaGreatDoorM27
import Derived.Test.YtdjleoglphgdgaaGreatDoorM16
import Derived.Test.YtdjleoglphgdgaaGreatDoorM24
set_option linter.unusedVariables false
set_option linter.unusedSimpArgs false
namespace Go.Proofs.YtdjleoglphgdgaaGreatDoor
open Go.RowKit Go.Shelf Go.Sort
attribute [local go_sem] Oper.semAt_some
set_option maxRecDepth 100000
set_option maxHeartbeats 12800000
def wayF (op:Int):Nat:=if op=1 then 76 else if op=2 then 77 else if op=3 then 78 else if op=4 then 79 else if op=5 then 80 else if op=6 then 81 else if op=35 then 81 else if op=7 then 82 else if op=8 then 83 else if op=9 then 84 else if op=10 then 85 else if op=11 then 86 else if op=28 then 87 else if op=29 then 88 else if op=30 then 89 else if op=31 then 89 else if op=32 then 90 else if op=33 then 91 else if op=34 then 92 else 93
theorem q1Y (S:Nat) (op:Int) (w:World):Calls Tryz.prog 41 #[.pointer (some ⟨S,0,none⟩),.int .i64 op] w fun e w'=>e= .returned (.func (.func (wayF op)) #[.pointer (some ⟨S,0,none⟩)] #[])∧w'=w:=by
 by_cases k1:op=1
 · subst k1;go_in;go_wp2_with fail;go_ret;exact ⟨rfl,rfl⟩
 have b1:(op==1)=false:=by rw [bqZ];exact k1
 by_cases k2:op=2
 · subst k2;go_in;go_wp2_with fail;go_ret;exact ⟨rfl,rfl⟩
 have b2:(op==2)=false:=by rw [bqZ];exact k2
 by_cases k3:op=3
 · subst k3;go_in;go_wp2_with fail;go_ret;exact ⟨rfl,rfl⟩
 have b3:(op==3)=false:=by rw [bqZ];exact k3
 by_cases k4:op=4
 · subst k4;go_in;go_wp2_with fail;go_ret;exact ⟨rfl,rfl⟩
 have b4:(op==4)=false:=by rw [bqZ];exact k4
 by_cases k5:op=5
 · subst k5;go_in;go_wp2_with fail;go_ret;exact ⟨rfl,rfl⟩
 have b5:(op==5)=false:=by rw [bqZ];exact k5
 by_cases k6:op=6
 · subst k6;go_in;go_wp2_with fail;go_ret;exact ⟨rfl,rfl⟩
 have b6:(op==6)=false:=by rw [bqZ];exact k6
 by_cases k35:op=35
 · subst k35;go_in;go_wp2_with fail;go_ret;exact ⟨rfl,rfl⟩
 have b35:(op==35)=false:=by rw [bqZ];exact k35
 by_cases k7:op=7
 · subst k7;go_in;go_wp2_with fail;go_ret;exact ⟨rfl,rfl⟩
 have b7:(op==7)=false:=by rw [bqZ];exact k7
 by_cases k8:op=8
 · subst k8;go_in;go_wp2_with fail;go_ret;exact ⟨rfl,rfl⟩
 have b8:(op==8)=false:=by rw [bqZ];exact k8
 by_cases k9:op=9
 · subst k9;go_in;go_wp2_with fail;go_ret;exact ⟨rfl,rfl⟩
 have b9:(op==9)=false:=by rw [bqZ];exact k9
 by_cases k10:op=10
 · subst k10;go_in;go_wp2_with fail;go_ret;exact ⟨rfl,rfl⟩
 have b10:(op==10)=false:=by rw [bqZ];exact k10
 by_cases k11:op=11
 · subst k11;go_in;go_wp2_with fail;go_ret;exact ⟨rfl,rfl⟩
 have b11:(op==11)=false:=by rw [bqZ];exact k11
 by_cases k28:op=28
 · subst k28;go_in;go_wp2_with fail;go_ret;exact ⟨rfl,rfl⟩
 have b28:(op==28)=false:=by rw [bqZ];exact k28
 by_cases k29:op=29
 · subst k29;go_in;go_wp2_with fail;go_ret;exact ⟨rfl,rfl⟩
 have b29:(op==29)=false:=by rw [bqZ];exact k29
 by_cases k30:op=30
 · subst k30;go_in;go_wp2_with fail;go_ret;exact ⟨rfl,rfl⟩
 have b30:(op==30)=false:=by rw [bqZ];exact k30
 by_cases k31:op=31
 · subst k31;go_in;go_wp2_with fail;go_ret;exact ⟨rfl,rfl⟩
 have b31:(op==31)=false:=by rw [bqZ];exact k31
 by_cases k32:op=32
 · subst k32;go_in;go_wp2_with fail;go_ret;exact ⟨rfl,rfl⟩
 have b32:(op==32)=false:=by rw [bqZ];exact k32
 by_cases k33:op=33
 · subst k33;go_in;go_wp2_with fail;go_ret;exact ⟨rfl,rfl⟩
 have b33:(op==33)=false:=by rw [bqZ];exact k33
 by_cases k34:op=34
 · subst k34;go_in;go_wp2_with fail;go_ret;exact ⟨rfl,rfl⟩
 have b34:(op==34)=false:=by rw [bqZ];exact k34
 have e:wayF op=93:=by unfold wayF;simp [k1,k2,k3,k4,k5,k6,k35,k7,k8,k9,k10,k11,k28,k29,k30,k31,k32,k33,k34]
 rw [e];clear e k1 k2 k3 k4 k5 k6 k35 k7 k8 k9 k10 k11 k28 k29 k30 k31 k32 k33 k34;go_in;go_wp2_with fail;go_ret;exact ⟨rfl,rfl⟩
theorem w_tell_self (w0:World) (S g o:Nat) (op:Int) (X:List UInt8) (he:wayF op=76) (c0:w0.cell? ⟨g,o,none⟩=some (.int .i64 op)) (hF:Say w0 S 76 #[.pointer (some ⟨S,0,none⟩),.pointer (some ⟨g,o,none⟩)] X):Say w0 S 26 #[.pointer (some ⟨S,0,none⟩),.pointer (some ⟨g,o,none⟩)] X:=by
 have HW:=hQz (fun u=>q1Y S op u);rw [he] at HW;have HF:=hQz hF;have HC0:=hQz c0;clear hF c0 he;intro w l hP hlen;have HP0:=hQz (And.intro hP (Lib.OthersKept.refl 5 (some S) w));have HL:=hQz hlen;clear hP hlen;go_in;have c00:=(HP0.out.1.low.cell (p:=⟨g,o,none⟩) (block_lt_of_cell HC0.out)).trans HC0.out;go_wp2_with fail;refine (HW.out _).mono ?_;rintro e wx ⟨rfl,hwx⟩;obtain rfl:=hwx.symm;clear c00;go_wp2_with fail;refine (HF.out _ _ HP0.out.1 HL.out).mono ?_;rintro e w1 ⟨rfl,hp,hk⟩;have HP1:Hid (PS w0 S w1 (l++(X))∧Lib.OthersKept 5 (some S) w w1):=⟨hp,HP0.out.2.trans hk⟩;clear hp hk;go_wp2_with fail
 go_end0
 refine ⟨rfl,?_,HP1.out.2⟩;have hz:=HP1.out.1
 try simp only [List.append_assoc,List.cons_append,List.nil_append] at hz ⊢
 exact hz
theorem w_tell_constant (w0:World) (S g o:Nat) (op:Int) (X:List UInt8) (he:wayF op=77) (c0:w0.cell? ⟨g,o,none⟩=some (.int .i64 op)) (hF:Say w0 S 77 #[.pointer (some ⟨S,0,none⟩),.pointer (some ⟨g,o,none⟩)] X):Say w0 S 26 #[.pointer (some ⟨S,0,none⟩),.pointer (some ⟨g,o,none⟩)] X:=by
 have HW:=hQz (fun u=>q1Y S op u);rw [he] at HW;have HF:=hQz hF;have HC0:=hQz c0;clear hF c0 he;intro w l hP hlen;have HP0:=hQz (And.intro hP (Lib.OthersKept.refl 5 (some S) w));have HL:=hQz hlen;clear hP hlen;go_in;have c00:=(HP0.out.1.low.cell (p:=⟨g,o,none⟩) (block_lt_of_cell HC0.out)).trans HC0.out;go_wp2_with fail;refine (HW.out _).mono ?_;rintro e wx ⟨rfl,hwx⟩;obtain rfl:=hwx.symm;clear c00;go_wp2_with fail;refine (HF.out _ _ HP0.out.1 HL.out).mono ?_;rintro e w1 ⟨rfl,hp,hk⟩;have HP1:Hid (PS w0 S w1 (l++(X))∧Lib.OthersKept 5 (some S) w w1):=⟨hp,HP0.out.2.trans hk⟩;clear hp hk;go_wp2_with fail
 go_end0
 refine ⟨rfl,?_,HP1.out.2⟩;have hz:=HP1.out.1
 try simp only [List.append_assoc,List.cons_append,List.nil_append] at hz ⊢
 exact hz
theorem w_tell_join (w0:World) (S g o:Nat) (op:Int) (X:List UInt8) (he:wayF op=78) (c0:w0.cell? ⟨g,o,none⟩=some (.int .i64 op)) (hF:Say w0 S 78 #[.pointer (some ⟨S,0,none⟩),.pointer (some ⟨g,o,none⟩)] X):Say w0 S 26 #[.pointer (some ⟨S,0,none⟩),.pointer (some ⟨g,o,none⟩)] X:=by
 have HW:=hQz (fun u=>q1Y S op u);rw [he] at HW;have HF:=hQz hF;have HC0:=hQz c0;clear hF c0 he;intro w l hP hlen;have HP0:=hQz (And.intro hP (Lib.OthersKept.refl 5 (some S) w));have HL:=hQz hlen;clear hP hlen;go_in;have c00:=(HP0.out.1.low.cell (p:=⟨g,o,none⟩) (block_lt_of_cell HC0.out)).trans HC0.out;go_wp2_with fail;refine (HW.out _).mono ?_;rintro e wx ⟨rfl,hwx⟩;obtain rfl:=hwx.symm;clear c00;go_wp2_with fail;refine (HF.out _ _ HP0.out.1 HL.out).mono ?_;rintro e w1 ⟨rfl,hp,hk⟩;have HP1:Hid (PS w0 S w1 (l++(X))∧Lib.OthersKept 5 (some S) w w1):=⟨hp,HP0.out.2.trans hk⟩;clear hp hk;go_wp2_with fail
 go_end0
 refine ⟨rfl,?_,HP1.out.2⟩;have hz:=HP1.out.1
 try simp only [List.append_assoc,List.cons_append,List.nil_append] at hz ⊢
 exact hz
theorem w_tell_list (w0:World) (S g o:Nat) (op:Int) (X:List UInt8) (he:wayF op=79) (c0:w0.cell? ⟨g,o,none⟩=some (.int .i64 op)) (hF:Say w0 S 79 #[.pointer (some ⟨S,0,none⟩),.pointer (some ⟨g,o,none⟩)] X):Say w0 S 26 #[.pointer (some ⟨S,0,none⟩),.pointer (some ⟨g,o,none⟩)] X:=by
 have HW:=hQz (fun u=>q1Y S op u);rw [he] at HW;have HF:=hQz hF;have HC0:=hQz c0;clear hF c0 he;intro w l hP hlen;have HP0:=hQz (And.intro hP (Lib.OthersKept.refl 5 (some S) w));have HL:=hQz hlen;clear hP hlen;go_in;have c00:=(HP0.out.1.low.cell (p:=⟨g,o,none⟩) (block_lt_of_cell HC0.out)).trans HC0.out;go_wp2_with fail;refine (HW.out _).mono ?_;rintro e wx ⟨rfl,hwx⟩;obtain rfl:=hwx.symm;clear c00;go_wp2_with fail;refine (HF.out _ _ HP0.out.1 HL.out).mono ?_;rintro e w1 ⟨rfl,hp,hk⟩;have HP1:Hid (PS w0 S w1 (l++(X))∧Lib.OthersKept 5 (some S) w w1):=⟨hp,HP0.out.2.trans hk⟩;clear hp hk;go_wp2_with fail
 go_end0
 refine ⟨rfl,?_,HP1.out.2⟩;have hz:=HP1.out.1
 try simp only [List.append_assoc,List.cons_append,List.nil_append] at hz ⊢
 exact hz
theorem w_tell_record (w0:World) (S g o:Nat) (op:Int) (X:List UInt8) (he:wayF op=80) (c0:w0.cell? ⟨g,o,none⟩=some (.int .i64 op)) (hF:Say w0 S 80 #[.pointer (some ⟨S,0,none⟩),.pointer (some ⟨g,o,none⟩)] X):Say w0 S 26 #[.pointer (some ⟨S,0,none⟩),.pointer (some ⟨g,o,none⟩)] X:=by
 have HW:=hQz (fun u=>q1Y S op u);rw [he] at HW;have HF:=hQz hF;have HC0:=hQz c0;clear hF c0 he;intro w l hP hlen;have HP0:=hQz (And.intro hP (Lib.OthersKept.refl 5 (some S) w));have HL:=hQz hlen;clear hP hlen;go_in;have c00:=(HP0.out.1.low.cell (p:=⟨g,o,none⟩) (block_lt_of_cell HC0.out)).trans HC0.out;go_wp2_with fail;refine (HW.out _).mono ?_;rintro e wx ⟨rfl,hwx⟩;obtain rfl:=hwx.symm;clear c00;go_wp2_with fail;refine (HF.out _ _ HP0.out.1 HL.out).mono ?_;rintro e w1 ⟨rfl,hp,hk⟩;have HP1:Hid (PS w0 S w1 (l++(X))∧Lib.OthersKept 5 (some S) w w1):=⟨hp,HP0.out.2.trans hk⟩;clear hp hk;go_wp2_with fail
 go_end0
 refine ⟨rfl,?_,HP1.out.2⟩;have hz:=HP1.out.1
 try simp only [List.append_assoc,List.cons_append,List.nil_append] at hz ⊢
 exact hz
theorem q20 (w0:World) (S g o:Nat) (op:Int) (X:List UInt8) (he:wayF op=81) (c0:w0.cell? ⟨g,o,none⟩=some (.int .i64 op)) (hF:Say w0 S 81 #[.pointer (some ⟨S,0,none⟩),.pointer (some ⟨g,o,none⟩)] X):Say w0 S 26 #[.pointer (some ⟨S,0,none⟩),.pointer (some ⟨g,o,none⟩)] X:=by
 have HW:=hQz (fun u=>q1Y S op u);rw [he] at HW;have HF:=hQz hF;have HC0:=hQz c0;clear hF c0 he;intro w l hP hlen;have HP0:=hQz (And.intro hP (Lib.OthersKept.refl 5 (some S) w));have HL:=hQz hlen;clear hP hlen;go_in;have c00:=(HP0.out.1.low.cell (p:=⟨g,o,none⟩) (block_lt_of_cell HC0.out)).trans HC0.out;go_wp2_with fail;refine (HW.out _).mono ?_;rintro e wx ⟨rfl,hwx⟩;obtain rfl:=hwx.symm;clear c00;go_wp2_with fail;refine (HF.out _ _ HP0.out.1 HL.out).mono ?_;rintro e w1 ⟨rfl,hp,hk⟩;have HP1:Hid (PS w0 S w1 (l++(X))∧Lib.OthersKept 5 (some S) w w1):=⟨hp,HP0.out.2.trans hk⟩;clear hp hk;go_wp2_with fail
 go_end0
 refine ⟨rfl,?_,HP1.out.2⟩;have hz:=HP1.out.1
 try simp only [List.append_assoc,List.cons_append,List.nil_append] at hz ⊢
 exact hz
theorem w_tell_index (w0:World) (S g o:Nat) (op:Int) (X:List UInt8) (he:wayF op=82) (c0:w0.cell? ⟨g,o,none⟩=some (.int .i64 op)) (hF:Say w0 S 82 #[.pointer (some ⟨S,0,none⟩),.pointer (some ⟨g,o,none⟩)] X):Say w0 S 26 #[.pointer (some ⟨S,0,none⟩),.pointer (some ⟨g,o,none⟩)] X:=by
 have HW:=hQz (fun u=>q1Y S op u);rw [he] at HW;have HF:=hQz hF;have HC0:=hQz c0;clear hF c0 he;intro w l hP hlen;have HP0:=hQz (And.intro hP (Lib.OthersKept.refl 5 (some S) w));have HL:=hQz hlen;clear hP hlen;go_in;have c00:=(HP0.out.1.low.cell (p:=⟨g,o,none⟩) (block_lt_of_cell HC0.out)).trans HC0.out;go_wp2_with fail;refine (HW.out _).mono ?_;rintro e wx ⟨rfl,hwx⟩;obtain rfl:=hwx.symm;clear c00;go_wp2_with fail;refine (HF.out _ _ HP0.out.1 HL.out).mono ?_;rintro e w1 ⟨rfl,hp,hk⟩;have HP1:Hid (PS w0 S w1 (l++(X))∧Lib.OthersKept 5 (some S) w w1):=⟨hp,HP0.out.2.trans hk⟩;clear hp hk;go_wp2_with fail
 go_end0
 refine ⟨rfl,?_,HP1.out.2⟩;have hz:=HP1.out.1
 try simp only [List.append_assoc,List.cons_append,List.nil_append] at hz ⊢
 exact hz
theorem w_tell_slice (w0:World) (S g o:Nat) (op:Int) (X:List UInt8) (he:wayF op=83) (c0:w0.cell? ⟨g,o,none⟩=some (.int .i64 op)) (hF:Say w0 S 83 #[.pointer (some ⟨S,0,none⟩),.pointer (some ⟨g,o,none⟩)] X):Say w0 S 26 #[.pointer (some ⟨S,0,none⟩),.pointer (some ⟨g,o,none⟩)] X:=by
 have HW:=hQz (fun u=>q1Y S op u);rw [he] at HW;have HF:=hQz hF;have HC0:=hQz c0;clear hF c0 he;intro w l hP hlen;have HP0:=hQz (And.intro hP (Lib.OthersKept.refl 5 (some S) w));have HL:=hQz hlen;clear hP hlen;go_in;have c00:=(HP0.out.1.low.cell (p:=⟨g,o,none⟩) (block_lt_of_cell HC0.out)).trans HC0.out;go_wp2_with fail;refine (HW.out _).mono ?_;rintro e wx ⟨rfl,hwx⟩;obtain rfl:=hwx.symm;clear c00;go_wp2_with fail;refine (HF.out _ _ HP0.out.1 HL.out).mono ?_;rintro e w1 ⟨rfl,hp,hk⟩;have HP1:Hid (PS w0 S w1 (l++(X))∧Lib.OthersKept 5 (some S) w w1):=⟨hp,HP0.out.2.trans hk⟩;clear hp hk;go_wp2_with fail
 go_end0
 refine ⟨rfl,?_,HP1.out.2⟩;have hz:=HP1.out.1
 try simp only [List.append_assoc,List.cons_append,List.nil_append] at hz ⊢
 exact hz
theorem w_tell_each (w0:World) (S g o:Nat) (op:Int) (X:List UInt8) (he:wayF op=84) (c0:w0.cell? ⟨g,o,none⟩=some (.int .i64 op)) (hF:Say w0 S 84 #[.pointer (some ⟨S,0,none⟩),.pointer (some ⟨g,o,none⟩)] X):Say w0 S 26 #[.pointer (some ⟨S,0,none⟩),.pointer (some ⟨g,o,none⟩)] X:=by
 have HW:=hQz (fun u=>q1Y S op u);rw [he] at HW;have HF:=hQz hF;have HC0:=hQz c0;clear hF c0 he;intro w l hP hlen;have HP0:=hQz (And.intro hP (Lib.OthersKept.refl 5 (some S) w));have HL:=hQz hlen;clear hP hlen;go_in;have c00:=(HP0.out.1.low.cell (p:=⟨g,o,none⟩) (block_lt_of_cell HC0.out)).trans HC0.out;go_wp2_with fail;refine (HW.out _).mono ?_;rintro e wx ⟨rfl,hwx⟩;obtain rfl:=hwx.symm;clear c00;go_wp2_with fail;refine (HF.out _ _ HP0.out.1 HL.out).mono ?_;rintro e w1 ⟨rfl,hp,hk⟩;have HP1:Hid (PS w0 S w1 (l++(X))∧Lib.OthersKept 5 (some S) w w1):=⟨hp,HP0.out.2.trans hk⟩;clear hp hk;go_wp2_with fail
 go_end0
 refine ⟨rfl,?_,HP1.out.2⟩;have hz:=HP1.out.1
 try simp only [List.append_assoc,List.cons_append,List.nil_append] at hz ⊢
 exact hz
theorem w_tell_try (w0:World) (S g o:Nat) (op:Int) (X:List UInt8) (he:wayF op=85) (c0:w0.cell? ⟨g,o,none⟩=some (.int .i64 op)) (hF:Say w0 S 85 #[.pointer (some ⟨S,0,none⟩),.pointer (some ⟨g,o,none⟩)] X):Say w0 S 26 #[.pointer (some ⟨S,0,none⟩),.pointer (some ⟨g,o,none⟩)] X:=by
 have HW:=hQz (fun u=>q1Y S op u);rw [he] at HW;have HF:=hQz hF;have HC0:=hQz c0;clear hF c0 he;intro w l hP hlen;have HP0:=hQz (And.intro hP (Lib.OthersKept.refl 5 (some S) w));have HL:=hQz hlen;clear hP hlen;go_in;have c00:=(HP0.out.1.low.cell (p:=⟨g,o,none⟩) (block_lt_of_cell HC0.out)).trans HC0.out;go_wp2_with fail;refine (HW.out _).mono ?_;rintro e wx ⟨rfl,hwx⟩;obtain rfl:=hwx.symm;clear c00;go_wp2_with fail;refine (HF.out _ _ HP0.out.1 HL.out).mono ?_;rintro e w1 ⟨rfl,hp,hk⟩;have HP1:Hid (PS w0 S w1 (l++(X))∧Lib.OthersKept 5 (some S) w w1):=⟨hp,HP0.out.2.trans hk⟩;clear hp hk;go_wp2_with fail
 go_end0
 refine ⟨rfl,?_,HP1.out.2⟩;have hz:=HP1.out.1
 try simp only [List.append_assoc,List.cons_append,List.nil_append] at hz ⊢
 exact hz
theorem w_tell_neg (w0:World) (S g o:Nat) (op:Int) (X:List UInt8) (he:wayF op=86) (c0:w0.cell? ⟨g,o,none⟩=some (.int .i64 op)) (hF:Say w0 S 86 #[.pointer (some ⟨S,0,none⟩),.pointer (some ⟨g,o,none⟩)] X):Say w0 S 26 #[.pointer (some ⟨S,0,none⟩),.pointer (some ⟨g,o,none⟩)] X:=by
 have HW:=hQz (fun u=>q1Y S op u);rw [he] at HW;have HF:=hQz hF;have HC0:=hQz c0;clear hF c0 he;intro w l hP hlen;have HP0:=hQz (And.intro hP (Lib.OthersKept.refl 5 (some S) w));have HL:=hQz hlen;clear hP hlen;go_in;have c00:=(HP0.out.1.low.cell (p:=⟨g,o,none⟩) (block_lt_of_cell HC0.out)).trans HC0.out;go_wp2_with fail;refine (HW.out _).mono ?_;rintro e wx ⟨rfl,hwx⟩;obtain rfl:=hwx.symm;clear c00;go_wp2_with fail;refine (HF.out _ _ HP0.out.1 HL.out).mono ?_;rintro e w1 ⟨rfl,hp,hk⟩;have HP1:Hid (PS w0 S w1 (l++(X))∧Lib.OthersKept 5 (some S) w w1):=⟨hp,HP0.out.2.trans hk⟩;clear hp hk;go_wp2_with fail
 go_end0
 refine ⟨rfl,?_,HP1.out.2⟩;have hz:=HP1.out.1
 try simp only [List.append_assoc,List.cons_append,List.nil_append] at hz ⊢
 exact hz
theorem w_tell_choice (w0:World) (S g o:Nat) (op:Int) (X:List UInt8) (he:wayF op=87) (c0:w0.cell? ⟨g,o,none⟩=some (.int .i64 op)) (hF:Say w0 S 87 #[.pointer (some ⟨S,0,none⟩),.pointer (some ⟨g,o,none⟩)] X):Say w0 S 26 #[.pointer (some ⟨S,0,none⟩),.pointer (some ⟨g,o,none⟩)] X:=by
 have HW:=hQz (fun u=>q1Y S op u);rw [he] at HW;have HF:=hQz hF;have HC0:=hQz c0;clear hF c0 he;intro w l hP hlen;have HP0:=hQz (And.intro hP (Lib.OthersKept.refl 5 (some S) w));have HL:=hQz hlen;clear hP hlen;go_in;have c00:=(HP0.out.1.low.cell (p:=⟨g,o,none⟩) (block_lt_of_cell HC0.out)).trans HC0.out;go_wp2_with fail;refine (HW.out _).mono ?_;rintro e wx ⟨rfl,hwx⟩;obtain rfl:=hwx.symm;clear c00;go_wp2_with fail;refine (HF.out _ _ HP0.out.1 HL.out).mono ?_;rintro e w1 ⟨rfl,hp,hk⟩;have HP1:Hid (PS w0 S w1 (l++(X))∧Lib.OthersKept 5 (some S) w w1):=⟨hp,HP0.out.2.trans hk⟩;clear hp hk;go_wp2_with fail
 go_end0
 refine ⟨rfl,?_,HP1.out.2⟩;have hz:=HP1.out.1
 try simp only [List.append_assoc,List.cons_append,List.nil_append] at hz ⊢
 exact hz
theorem w_tell_bind (w0:World) (S g o:Nat) (op:Int) (X:List UInt8) (he:wayF op=88) (c0:w0.cell? ⟨g,o,none⟩=some (.int .i64 op)) (hF:Say w0 S 88 #[.pointer (some ⟨S,0,none⟩),.pointer (some ⟨g,o,none⟩)] X):Say w0 S 26 #[.pointer (some ⟨S,0,none⟩),.pointer (some ⟨g,o,none⟩)] X:=by
 have HW:=hQz (fun u=>q1Y S op u);rw [he] at HW;have HF:=hQz hF;have HC0:=hQz c0;clear hF c0 he;intro w l hP hlen;have HP0:=hQz (And.intro hP (Lib.OthersKept.refl 5 (some S) w));have HL:=hQz hlen;clear hP hlen;go_in;have c00:=(HP0.out.1.low.cell (p:=⟨g,o,none⟩) (block_lt_of_cell HC0.out)).trans HC0.out;go_wp2_with fail;refine (HW.out _).mono ?_;rintro e wx ⟨rfl,hwx⟩;obtain rfl:=hwx.symm;clear c00;go_wp2_with fail;refine (HF.out _ _ HP0.out.1 HL.out).mono ?_;rintro e w1 ⟨rfl,hp,hk⟩;have HP1:Hid (PS w0 S w1 (l++(X))∧Lib.OthersKept 5 (some S) w w1):=⟨hp,HP0.out.2.trans hk⟩;clear hp hk;go_wp2_with fail
 go_end0
 refine ⟨rfl,?_,HP1.out.2⟩;have hz:=HP1.out.1
 try simp only [List.append_assoc,List.cons_append,List.nil_append] at hz ⊢
 exact hz
theorem w_tell_loop (w0:World) (S g o:Nat) (op:Int) (X:List UInt8) (he:wayF op=89) (c0:w0.cell? ⟨g,o,none⟩=some (.int .i64 op)) (hF:Say w0 S 89 #[.pointer (some ⟨S,0,none⟩),.pointer (some ⟨g,o,none⟩)] X):Say w0 S 26 #[.pointer (some ⟨S,0,none⟩),.pointer (some ⟨g,o,none⟩)] X:=by
 have HW:=hQz (fun u=>q1Y S op u);rw [he] at HW;have HF:=hQz hF;have HC0:=hQz c0;clear hF c0 he;intro w l hP hlen;have HP0:=hQz (And.intro hP (Lib.OthersKept.refl 5 (some S) w));have HL:=hQz hlen;clear hP hlen;go_in;have c00:=(HP0.out.1.low.cell (p:=⟨g,o,none⟩) (block_lt_of_cell HC0.out)).trans HC0.out;go_wp2_with fail;refine (HW.out _).mono ?_;rintro e wx ⟨rfl,hwx⟩;obtain rfl:=hwx.symm;clear c00;go_wp2_with fail;refine (HF.out _ _ HP0.out.1 HL.out).mono ?_;rintro e w1 ⟨rfl,hp,hk⟩;have HP1:Hid (PS w0 S w1 (l++(X))∧Lib.OthersKept 5 (some S) w w1):=⟨hp,HP0.out.2.trans hk⟩;clear hp hk;go_wp2_with fail
 go_end0
 refine ⟨rfl,?_,HP1.out.2⟩;have hz:=HP1.out.1
 try simp only [List.append_assoc,List.cons_append,List.nil_append] at hz ⊢
 exact hz
theorem w_tell_definition (w0:World) (S g o:Nat) (op:Int) (X:List UInt8) (he:wayF op=90) (c0:w0.cell? ⟨g,o,none⟩=some (.int .i64 op)) (hF:Say w0 S 90 #[.pointer (some ⟨S,0,none⟩),.pointer (some ⟨g,o,none⟩)] X):Say w0 S 26 #[.pointer (some ⟨S,0,none⟩),.pointer (some ⟨g,o,none⟩)] X:=by
 have HW:=hQz (fun u=>q1Y S op u);rw [he] at HW;have HF:=hQz hF;have HC0:=hQz c0;clear hF c0 he;intro w l hP hlen;have HP0:=hQz (And.intro hP (Lib.OthersKept.refl 5 (some S) w));have HL:=hQz hlen;clear hP hlen;go_in;have c00:=(HP0.out.1.low.cell (p:=⟨g,o,none⟩) (block_lt_of_cell HC0.out)).trans HC0.out;go_wp2_with fail;refine (HW.out _).mono ?_;rintro e wx ⟨rfl,hwx⟩;obtain rfl:=hwx.symm;clear c00;go_wp2_with fail;refine (HF.out _ _ HP0.out.1 HL.out).mono ?_;rintro e w1 ⟨rfl,hp,hk⟩;have HP1:Hid (PS w0 S w1 (l++(X))∧Lib.OthersKept 5 (some S) w w1):=⟨hp,HP0.out.2.trans hk⟩;clear hp hk;go_wp2_with fail
 go_end0
 refine ⟨rfl,?_,HP1.out.2⟩;have hz:=HP1.out.1
 try simp only [List.append_assoc,List.cons_append,List.nil_append] at hz ⊢
 exact hz
theorem w_tell_call (w0:World) (S g o:Nat) (op:Int) (X:List UInt8) (he:wayF op=91) (c0:w0.cell? ⟨g,o,none⟩=some (.int .i64 op)) (hF:Say w0 S 91 #[.pointer (some ⟨S,0,none⟩),.pointer (some ⟨g,o,none⟩)] X):Say w0 S 26 #[.pointer (some ⟨S,0,none⟩),.pointer (some ⟨g,o,none⟩)] X:=by
 have HW:=hQz (fun u=>q1Y S op u);rw [he] at HW;have HF:=hQz hF;have HC0:=hQz c0;clear hF c0 he;intro w l hP hlen;have HP0:=hQz (And.intro hP (Lib.OthersKept.refl 5 (some S) w));have HL:=hQz hlen;clear hP hlen;go_in;have c00:=(HP0.out.1.low.cell (p:=⟨g,o,none⟩) (block_lt_of_cell HC0.out)).trans HC0.out;go_wp2_with fail;refine (HW.out _).mono ?_;rintro e wx ⟨rfl,hwx⟩;obtain rfl:=hwx.symm;clear c00;go_wp2_with fail;refine (HF.out _ _ HP0.out.1 HL.out).mono ?_;rintro e w1 ⟨rfl,hp,hk⟩;have HP1:Hid (PS w0 S w1 (l++(X))∧Lib.OthersKept 5 (some S) w w1):=⟨hp,HP0.out.2.trans hk⟩;clear hp hk;go_wp2_with fail
 go_end0
 refine ⟨rfl,?_,HP1.out.2⟩;have hz:=HP1.out.1
 try simp only [List.append_assoc,List.cons_append,List.nil_append] at hz ⊢
 exact hz
theorem w_tell_label (w0:World) (S g o:Nat) (op:Int) (X:List UInt8) (he:wayF op=92) (c0:w0.cell? ⟨g,o,none⟩=some (.int .i64 op)) (hF:Say w0 S 92 #[.pointer (some ⟨S,0,none⟩),.pointer (some ⟨g,o,none⟩)] X):Say w0 S 26 #[.pointer (some ⟨S,0,none⟩),.pointer (some ⟨g,o,none⟩)] X:=by
 have HW:=hQz (fun u=>q1Y S op u);rw [he] at HW;have HF:=hQz hF;have HC0:=hQz c0;clear hF c0 he;intro w l hP hlen;have HP0:=hQz (And.intro hP (Lib.OthersKept.refl 5 (some S) w));have HL:=hQz hlen;clear hP hlen;go_in;have c00:=(HP0.out.1.low.cell (p:=⟨g,o,none⟩) (block_lt_of_cell HC0.out)).trans HC0.out;go_wp2_with fail;refine (HW.out _).mono ?_;rintro e wx ⟨rfl,hwx⟩;obtain rfl:=hwx.symm;clear c00;go_wp2_with fail;refine (HF.out _ _ HP0.out.1 HL.out).mono ?_;rintro e w1 ⟨rfl,hp,hk⟩;have HP1:Hid (PS w0 S w1 (l++(X))∧Lib.OthersKept 5 (some S) w w1):=⟨hp,HP0.out.2.trans hk⟩;clear hp hk;go_wp2_with fail
 go_end0
 refine ⟨rfl,?_,HP1.out.2⟩;have hz:=HP1.out.1
 try simp only [List.append_assoc,List.cons_append,List.nil_append] at hz ⊢
 exact hz
theorem w_tell_operation (w0:World) (S g o:Nat) (op:Int) (X:List UInt8) (he:wayF op=93) (c0:w0.cell? ⟨g,o,none⟩=some (.int .i64 op)) (hF:Say w0 S 93 #[.pointer (some ⟨S,0,none⟩),.pointer (some ⟨g,o,none⟩)] X):Say w0 S 26 #[.pointer (some ⟨S,0,none⟩),.pointer (some ⟨g,o,none⟩)] X:=by
 have HW:=hQz (fun u=>q1Y S op u);rw [he] at HW;have HF:=hQz hF;have HC0:=hQz c0;clear hF c0 he;intro w l hP hlen;have HP0:=hQz (And.intro hP (Lib.OthersKept.refl 5 (some S) w));have HL:=hQz hlen;clear hP hlen;go_in;have c00:=(HP0.out.1.low.cell (p:=⟨g,o,none⟩) (block_lt_of_cell HC0.out)).trans HC0.out;go_wp2_with fail;refine (HW.out _).mono ?_;rintro e wx ⟨rfl,hwx⟩;obtain rfl:=hwx.symm;clear c00;go_wp2_with fail;refine (HF.out _ _ HP0.out.1 HL.out).mono ?_;rintro e w1 ⟨rfl,hp,hk⟩;have HP1:Hid (PS w0 S w1 (l++(X))∧Lib.OthersKept 5 (some S) w w1):=⟨hp,HP0.out.2.trans hk⟩;clear hp hk;go_wp2_with fail
 go_end0
 refine ⟨rfl,?_,HP1.out.2⟩;have hz:=HP1.out.1
 try simp only [List.append_assoc,List.cons_append,List.nil_append] at hz ⊢
 exact hz
end Go.Proofs.YtdjleoglphgdgaaGreatDoor
namespace Go.Proofs.YtdjleoglphgdgaaGreatDoor
open Go.RowKit Go.Shelf Go.Sort
set_option maxRecDepth 100000
set_option maxHeartbeats 12800000
def TxB:Nat→NT→Prop
 | 0,_=>True
 | h+1,A=>A.value.text.size≤1048576∧∀ i,i<A.kids.length→TxB h (A.kids.getD i nn0)
theorem fp_open {h:Nat} {A:NT} (hf:fpN (h+1) A=true):mfB A.op (A.kids.length:Int)=true∧∀ i,i<A.kids.length→kfB (fpN h) A.op A.kids i (A.kids.getD i nn0)=true:=by
 rw [fpN] at hf;simp only [Bool.and_eq_true,List.all_eq_true,List.mem_range] at hf;exact ⟨hf.1.1.1.1,hf.1.1.1.2⟩
theorem mf_rng {op m:Int} (h:mfB op m=true):1≤op∧op≤43:=by
 unfold mfB at h
 repeat' split at h
 all_goals first|omega|skip
 simp only [Bool.and_eq_true,Bool.or_eq_true,decide_eq_true_eq] at h;omega
theorem kf_fm {fm:NT→Bool} {op:Int} {ks:List NT} {i:Nat} {k:NT} (h:kfB fm op ks i k=true) (hn:op=8→0<i→k.op≠0):fm k=true:=by
 unfold kfB at h
 split at h
 · rename_i hc
   exact absurd (noneIff.1 (q2j.1 hc.2.2)).1 (hn hc.1 hc.2.1)
 · split at h
   · simp only [Bool.and_eq_true] at h;exact h.2
   · exact h
def TlOk (w0:World) (S h:Nat):Prop:=∀ (A:NT) (g o:Nat),NAt w0 h A g o→fpN h A=true→TxB h A→Say w0 S 26 #[.pointer (some ⟨S,0,none⟩),.pointer (some ⟨g,o,none⟩)] (shT h A)
theorem tl_step (w0:World) (S h:Nat) (ih:TlOk w0 S h):TlOk w0 S (h+1):=by
 intro A g o hA hf ht;obtain ⟨hm,hk⟩:=fp_open hf;have hA':=hA;obtain ⟨aio,aic,ayo,ayc,ano,anc,ako,akc,HA⟩:=hA.open_;obtain ⟨r1,r2⟩:=mf_rng hm;obtain ⟨K,hK⟩:∃ K,K=fun i=>A.kids.getD i nn0:=⟨_,rfl⟩;obtain ⟨t,hT0⟩:∃ t,t=fun i=>shT h (A.kids.getD i nn0):=⟨_,rfl⟩;have eK:∀ i,A.kids.getD i nn0=K i:=fun i=>by rw [hK]
 have eT:∀ i,shT h (K i)=t i:=fun i=>by rw [hK,hT0]
 have hsh:=shT_up h A;simp only at hsh;rw [← hK,← hT0] at hsh
 obtain ⟨b,off,hko,hrow⟩:∃ b off,(0<A.kids.length→ako=some ⟨b,off,none⟩)∧∀ i,i<A.kids.length→NAt w0 h (K i) b (off+i*10):=by
  by_cases h0:0<A.kids.length
  · obtain ⟨b,off,e,hr⟩:=HA.kids h0;exact ⟨b,off,fun _=>e,fun i hi=>by rw [← eK,q2d hi];exact hr i hi⟩
  · exact ⟨0,0,fun h=>absurd h h0,fun i hi=>absurd (Nat.lt_of_le_of_lt (Nat.zero_le _) hi) h0⟩
 have hkf:∀ i,i<A.kids.length→(A.op=8→0<i→(K i).op≠0)→fpN h (K i)=true:=fun i hi hn=>kf_fm (by have:=hk i hi;rw [eK] at this;exact this) hn
 have htx:∀ i,i<A.kids.length→TxB h (K i):=fun i hi=>by have:=ht.2 i hi;rw [eK] at this;exact this
 have hT:∀ i,i<A.kids.length→(A.op=8→0<i→(K i).op≠0)→Say w0 S 26 #[.pointer (some ⟨S,0,none⟩),.pointer (some ⟨b,off+i*10,none⟩)] (t i):=fun i hi hn=>by
  rw [← eT];exact ih (K i) b _ (hrow i hi) (hkf i hi hn) (htx i hi)
 have hTT:A.op≠8→∀ i,i<A.kids.length→Say w0 S 26 #[.pointer (some ⟨S,0,none⟩),.pointer (some ⟨b,off+i*10,none⟩)] (t i):=fun h8 i hi=>hT i hi (fun e=>absurd e h8)
 have hup:∀ i,i<A.kids.length→NAt w0 (h-1+1) (K i) b (off+i*10):=fun i hi=>by
  have hr:=hrow i hi;obtain ⟨n,hn⟩:=hr.pos;rw [show h-1+1=h by omega];exact hr
 have hkop:∀ i,i<A.kids.length→(A.op=8→0<i→(K i).op≠0)→0≤(K i).op∧(K i).op<44:=fun i hi hn=>by
  have hr:=hkf i hi hn;obtain ⟨n,rfl⟩:=(hrow i hi).pos;have:=mf_rng (fp_open hr).1;omega
 have hsz:∀ i,i<A.kids.length→(K i).value.text.size≤1048576:=fun i hi=>by
  have hr:=htx i hi;obtain ⟨n,rfl⟩:=(hrow i hi).pos;exact hr.1
 have hAA:A.op≠8→∀ i,i<A.kids.length→NAt w0 (h-1+1) (K i) b (off+i*10)∧0≤(K i).op∧(K i).op<44:=fun h8 i hi=>⟨hup i hi,hkop i hi (fun e=>absurd e h8)⟩;have c9':0<A.kids.length→w0.cell? ⟨g,o+9,none⟩=some (.slice (some ⟨b,off,none⟩) A.kids.length akc):=fun h0=>by rw [← hko h0];exact HA.c9
 by_cases k1:A.op=1
 · have e:shT (h+1) A=[46]:=by rw [hsh];simp only [k1];rfl
   rw [e];refine w_tell_self w0 S g o A.op _ (by rw [k1];rfl) HA.c0 ?_;exact w_selfP w0 S g o
 by_cases k2:A.op=2
 · have e:shT (h+1) A=pCn A.value:=by rw [hsh];simp only [k2];rfl
   rw [e];refine w_tell_constant w0 S g o A.op _ (by rw [k2];rfl) HA.c0 ?_;exact w_constant w0 S h A g o hA' (by have:=ht.1;omega)
 by_cases k3:A.op=3
 · have e:shT (h+1) A=sJoin K t A.kids.length:=by rw [hsh];simp only [k3];rfl
   rw [e]
   have hN:3≤A.kids.length:=by
    rw [k3] at hm;simp [mfB] at hm;omega
   refine w_tell_join w0 S g o A.op _ (by rw [k3];rfl) HA.c0 ?_;exact w_join w0 S (h-1) g o b off A.kids.length akc K t (c9' (by omega)) HA.kl.1 HA.kl.2 (by omega) (fun i hi=>⟨hup i hi,hsz i hi⟩) (hTT (by omega))
 by_cases k4:A.op=4
 · have e:shT (h+1) A=sList t A.kids.length:=by rw [hsh];simp only [k4];rfl
   rw [e];refine w_tell_list w0 S g o A.op _ (by rw [k4];rfl) HA.c0 ?_;exact w_list w0 S g o b off A.kids.length akc ako t hko HA.c9 HA.kl.1 HA.kl.2 (hTT (by omega))
 by_cases k5:A.op=5
 · have e:shT (h+1) A=sRecord K t (A.kids.length / 2):=by rw [hsh];simp only [k5];rfl
   rw [e]
   have hN:A.kids.length=2*(A.kids.length / 2):=by
    rw [k5] at hm;simp [mfB] at hm;omega
   refine w_tell_record w0 S g o A.op _ (by rw [k5];rfl) HA.c0 ?_;exact w_record w0 S (h-1) g o b off A.kids.length akc K t ako hko HA.c9 HA.kl.1 HA.kl.2 (A.kids.length / 2) hN (hTT (by omega)) (hAA (by omega)) hsz
 by_cases k6:A.op=6
 · have e:shT (h+1) A=sVar A.op A.text:=by rw [hsh];simp only [k6];rfl
   rw [e];refine q20 w0 S g o A.op _ (by rw [k6];rfl) HA.c0 ?_;exact w_variable w0 S g o A.op HA.c0 A.text HA.c2
 by_cases k35:A.op=35
 · have e:shT (h+1) A=sVar A.op A.text:=by rw [hsh];simp only [k35];rfl
   rw [e];refine q20 w0 S g o A.op _ (by rw [k35];rfl) HA.c0 ?_;exact w_variable w0 S g o A.op HA.c0 A.text HA.c2
 by_cases k7:A.op=7
 · have e:shT (h+1) A=sIndex K t:=by rw [hsh];simp only [k7];rfl
   rw [e]
   have hN:A.kids.length=2:=by
    rw [k7] at hm;simp [mfB] at hm;omega
   refine w_tell_index w0 S g o A.op _ (by rw [k7];rfl) HA.c0 ?_;exact w_index w0 S (h-1) g o b off A.kids.length akc K t (c9' (by omega)) HA.kl.1 HA.kl.2 (by omega) (hsz 1 (by omega)) (hTT (by omega)) (hAA (by omega))
 by_cases k8:A.op=8
 · have e:shT (h+1) A=sSlice K t:=by rw [hsh];simp only [k8];rfl
   rw [e]
   have hN:A.kids.length=3:=by
    rw [k8] at hm;simp [mfB] at hm;omega
   refine w_tell_slice w0 S g o A.op _ (by rw [k8];rfl) HA.c0 ?_;exact w_slice w0 S (h-1) g o b off A.kids.length akc K t (c9' (by omega)) HA.kl.1 HA.kl.2 (by omega) (w_base w0 S (h-1) (K 0) b _ (t 0) (hup 0 (by omega)) (hkop 0 (by omega) (fun _ h0=>absurd h0 (Nat.lt_irrefl 0))) (hT 0 (by omega) (fun _ h0=>absurd h0 (Nat.lt_irrefl 0)))) (w_end w0 S (h-1) (K 1) b _ (t 1) (hup 1 (by omega)) (fun hne=>hT 1 (by omega) (fun _ _=>hne))) (w_end w0 S (h-1) (K 2) b _ (t 2) (hup 2 (by omega)) (fun hne=>hT 2 (by omega) (fun _ _=>hne)))
 by_cases k9:A.op=9
 · have e:shT (h+1) A=sEach K t:=by rw [hsh];simp only [k9];rfl
   rw [e]
   have hN:A.kids.length=1:=by
    rw [k9] at hm;simp [mfB] at hm;omega
   refine w_tell_each w0 S g o A.op _ (by rw [k9];rfl) HA.c0 ?_;exact w_each w0 S (h-1) g o b off A.kids.length akc K t (c9' (by omega)) HA.kl.1 HA.kl.2 (by omega) (hTT (by omega)) (hAA (by omega))
 by_cases k10:A.op=10
 · have e:shT (h+1) A=sTry K t A.kids.length:=by rw [hsh];simp only [k10];rfl
   rw [e]
   have hN:1≤A.kids.length∧A.kids.length≤2:=by
    rw [k10] at hm;simp [mfB] at hm;omega
   refine w_tell_try w0 S g o A.op _ (by rw [k10];rfl) HA.c0 ?_;exact w_try w0 S (h-1) g o b off A.kids.length akc K t (c9' (by omega)) HA.kl.1 HA.kl.2 (by omega) (by omega) (hTT (by omega)) (hAA (by omega))
 by_cases k11:A.op=11
 · have e:shT (h+1) A=sNeg K t:=by rw [hsh];simp only [k11];rfl
   rw [e]
   have hN:A.kids.length=1:=by
    rw [k11] at hm;simp [mfB] at hm;omega
   refine w_tell_neg w0 S g o A.op _ (by rw [k11];rfl) HA.c0 ?_;exact w_neg w0 S (h-1) g o b off A.kids.length akc K t (c9' (by omega)) HA.kl.1 HA.kl.2 (by omega) (hTT (by omega)) (hAA (by omega))
 by_cases k28:A.op=28
 · have e:shT (h+1) A=sIf t:=by rw [hsh];simp only [k28];rfl
   rw [e]
   have hN:A.kids.length=3:=by
    rw [k28] at hm;simp [mfB] at hm;omega
   refine w_tell_choice w0 S g o A.op _ (by rw [k28];rfl) HA.c0 ?_;exact w_choice w0 S (h-1) g o b off A.kids.length akc K t (c9' (by omega)) HA.kl.1 HA.kl.2 (by omega) (hTT (by omega))
 by_cases k29:A.op=29
 · have e:shT (h+1) A=sBind K t A.text:=by rw [hsh];simp only [k29];rfl
   rw [e]
   have hN:A.kids.length=2:=by
    rw [k29] at hm;simp [mfB] at hm;omega
   refine w_tell_bind w0 S g o A.op _ (by rw [k29];rfl) HA.c0 ?_;exact w_bind w0 S (h-1) g o b off A.kids.length akc K t (c9' (by omega)) HA.kl.1 HA.kl.2 (by omega) A.text HA.c2 (hTT (by omega)) (hAA (by omega))
 by_cases k30:A.op=30
 · have e:shT (h+1) A=sLoop A.op K t A.text A.kids.length:=by rw [hsh];simp only [k30];rfl
   rw [e]
   have hN:A.kids.length=3:=by
    rw [k30] at hm;simp [mfB] at hm;omega
   refine w_tell_loop w0 S g o A.op _ (by rw [k30];rfl) HA.c0 ?_;exact w_loop w0 S (h-1) g o b off A.kids.length akc K t (c9' (by omega)) HA.kl.1 HA.kl.2 (by omega) A.text HA.c2 A.op HA.c0 (hTT (by omega)) (hAA (by omega))
 by_cases k31:A.op=31
 · have e:shT (h+1) A=sLoop A.op K t A.text A.kids.length:=by rw [hsh];simp only [k31];rfl
   rw [e]
   have hN:A.kids.length=3∨A.kids.length=4:=by
    rw [k31] at hm;simp [mfB] at hm;omega
   refine w_tell_loop w0 S g o A.op _ (by rw [k31];rfl) HA.c0 ?_;exact w_loop w0 S (h-1) g o b off A.kids.length akc K t (c9' (by omega)) HA.kl.1 HA.kl.2 (by omega) A.text HA.c2 A.op HA.c0 (hTT (by omega)) (hAA (by omega))
 by_cases k32:A.op=32
 · have e:shT (h+1) A=sDef t A.text A.names:=by rw [hsh];simp only [k32];rfl
   rw [e]
   have hN:A.kids.length=2:=by
    rw [k32] at hm;simp [mfB] at hm;omega
   refine w_tell_definition w0 S g o A.op _ (by rw [k32];rfl) HA.c0 ?_;exact w_definition w0 S g o b off akc t (by have:=c9' (by omega);rw [hN] at this;exact this) (by have:=HA.kl.1;omega) A.text HA.c2 ano anc A.names HA.c8 HA.names HA.nl.1 HA.nl.2.1 (fun i hi=>hTT (by omega) i (by omega))
 by_cases k33:A.op=33
 · have e:shT (h+1) A=sCall t A.text A.kids.length:=by rw [hsh];simp only [k33];rfl
   rw [e];refine w_tell_call w0 S g o A.op _ (by rw [k33];rfl) HA.c0 ?_;exact w_call w0 S g o b off A.kids.length akc ako t hko HA.c9 HA.kl.1 HA.kl.2 A.text HA.c2 (hTT (by omega))
 by_cases k34:A.op=34
 · have e:shT (h+1) A=sLabel t A.text:=by rw [hsh];simp only [k34];rfl
   rw [e]
   have hN:A.kids.length=1:=by
    rw [k34] at hm;simp [mfB] at hm;omega
   refine w_tell_label w0 S g o A.op _ (by rw [k34];rfl) HA.c0 ?_;exact w_label w0 S (h-1) g o b off A.kids.length akc K t (c9' (by omega)) HA.kl.1 HA.kl.2 (by omega) A.text HA.c2 (hTT (by omega))
 have e:shT (h+1) A=sOp A.op K t:=by
  rw [hsh,if_neg k1,if_neg k2,if_neg k3,if_neg k4,if_neg k5,if_neg (by omega),if_neg k7,if_neg k8,if_neg k9,if_neg k10,if_neg k11,if_neg k28,if_neg k29,if_neg (by omega),if_neg k32,if_neg k33,if_neg k34]
 rw [e]
 have hN:A.kids.length=2:=by
  unfold mfB at hm;rw [if_neg (by omega),if_neg (by omega),if_neg (by omega),if_neg (by omega),if_neg (by omega),if_neg (by omega),if_neg (by omega),if_neg (by omega),if_neg (by omega),if_neg (by omega)] at hm;simp only [Bool.and_eq_true] at hm;have:=eq_of_beq hm.1;omega
 have hw:wayF A.op=93:=by
  unfold wayF;rw [if_neg k1,if_neg k2,if_neg k3,if_neg k4,if_neg k5,if_neg k6,if_neg k35,if_neg k7,if_neg k8,if_neg k9,if_neg k10,if_neg k11,if_neg k28,if_neg k29,if_neg k30,if_neg k31,if_neg k32,if_neg k33,if_neg k34]
 refine w_tell_operation w0 S g o A.op _ hw HA.c0 ?_;obtain ⟨m,hm2⟩:∃ m:Nat,A.op=(m:Int):=⟨A.op.toNat,by omega⟩;have c0:=HA.c0;have hTT':=hTT k8;have hAA':=hAA k8;rw [hm2] at c0 ⊢;exact w_operation w0 S (h-1) g o b off A.kids.length akc K t (c9' (by omega)) HA.kl.1 HA.kl.2 (by omega) m (by omega) c0 hTT' hAA'
theorem w_tell (w0:World) (S:Nat):∀ h,TlOk w0 S h
 | 0=>fun _ _ _ ⟨_,_,hA⟩=>hA.elim
 | h+1=>tl_step w0 S h (w_tell w0 S h)
end Go.Proofs.YtdjleoglphgdgaaGreatDoor
namespace Go.Proofs.YtdjleoglphgdgaaGreatDoor
open Go.RowKit
set_option maxRecDepth 100000
set_option maxHeartbeats 12800000
theorem w_String (B S:Nat) (l:List UInt8) (w:World) (h:Pen B S w l):
 Calls Tryz.prog 27 #[.pointer (some ⟨S,0,none⟩)] w fun e w'=>e= .returned (.string ⟨l.toArray⟩)∧Below B w w':=by
 obtain ⟨p,v,hb,hp,hown,hnil⟩:=h.at_;by_cases h0:l=[]
 · subst h0;obtain rfl:=hnil rfl;have hUS:=fun (W:World) (q:Option Addr)=>Lib.run_unsafeString_none (P:=Tryz.prog) W 76 3 9 q
   have c1:w.drew.cell? ⟨S,1,none⟩=some (.slice none 0 0):=by
    have:w.drew.heap[S]? =some (.cells #[p,.slice none 0 0] 52 (0,0)):=hb;rw [Lib.cell_of_heap this];rfl
   have hSD:(Builtin.unsafeSliceData_ #[48] 76 #[.slice none 0 0]).run Tryz.prog w.drew= .ok (.pointer none) w.drew:=rfl;clear h hb hp hown hnil;have mixed:Tryz.prog.follows .mixedOrders=true:=by kernel_rfl
   go_in
   go_wp2
   go_region_o
   all_goals (go_wp2;go_ret;exact ⟨rfl,Below.drew (Below.refl B w)⟩)
 · have hl0:l.length≠0:=by simpa using h0
   obtain ⟨g,cap,cur,rfl,hbg,hg,hnc,hcm,hcs,htake⟩:∃ g cap cur,v= .slice (some ⟨g,0,none⟩) l.length cap∧B≤g∧w.heap[g]? =some (.cells cur 5 (0,0))∧l.length≤cap∧cap≤maxLen∧cur.size=cap*1∧cur.toList.take (l.length*1)=Lib.byteCells l:=by
    rcases hown.2 with ⟨_,hz⟩|⟨g,cap,cur,hv,r⟩
    · exact absurd hz hl0
    · exact ⟨g,cap,cur,hv,r⟩
   have c1:w.drew.cell? ⟨S,1,none⟩=some (.slice (some ⟨g,0,none⟩) l.length cap):=by
    have:w.drew.heap[S]? =some (.cells #[p,.slice (some ⟨g,0,none⟩) l.length cap] 52 (0,0)):=hb;rw [Lib.cell_of_heap this];rfl
   have hSD:(Builtin.unsafeSliceData_ #[48] 76 #[.slice (some ⟨g,0,none⟩) l.length cap]).run Tryz.prog w.drew= .ok (.pointer (some ⟨g,0,none⟩)) w.drew:=
    Lib.run_unsafeSliceData_row _ _ _ _ _ _ (by omega)
   have hUS:(Builtin.unsafeString_ #[76,3] 9 #[.pointer (some ⟨g,0,none⟩),.int .i64 l.length]).run Tryz.prog w.drew= .ok (.string ⟨l.toArray⟩) (w.drew.freeze ⟨g,0,none⟩ l.length):=by
    refine Lib.run_unsafeString_row w.drew 76 3 9 5 Tryz.underlying76 (by kernel_rfl) g cur.size (by have hg':w.drew.heap[g]? =some (.cells cur 5 (0,0)):=hg;simp [World.shape?,hg']) l h0 (by omega) (by unfold maxLen at hcm;omega) ?_;intro j x hx;have:=hown.cells (g:=g) rfl j (.int .u8 x.toNat) (by simp [Lib.byteCells,hx]);exact this
   have HF:=hQz (Lib.below_freeze (Below.drew (Below.refl B w)) (p:=⟨g,0,none⟩) hbg l.length);clear h hb hp hown hnil hg hnc hcm hcs htake h0 hl0 hbg;have mixed:Tryz.prog.follows .mixedOrders=true:=by kernel_rfl
   go_in
   go_wp2
   go_region_o
   all_goals (go_wp2;go_ret;exact ⟨rfl,HF.out⟩)
end Go.Proofs.YtdjleoglphgdgaaGreatDoor
namespace Go.Proofs.YtdjleoglphgdgaaGreatDoor
open Go.RowKit Go.Shelf Go.Sort
attribute [local go_sem] Oper.semAt_some
set_option maxRecDepth 100000
set_option maxHeartbeats 12800000
noncomputable def txAP (h:Nat) (A:NT):List UInt8:=if fpN h A=true then shT h A else []
noncomputable def txE (h:Nat) (A:NT):Int:=if fpN h A=true then 0 else 1
theorem pen_new (w:World) (hT:PTabIn w):PS w w.heap.size (w.alloc (.cells #[.pointer none,.slice none 0 0] 52)) []:=
 ⟨⟨Nat.le_refl _,_,_,heap_alloc_new w _,.inl rfl,⟨rfl,.inl ⟨rfl,rfl⟩⟩,fun _=>rfl⟩,q0a w _,hT⟩
theorem w_TextP (h:Nat) (A:NT) (va:Value) (w:World) (hA:InA w h A va) (hT:PTabIn w) (htx:TxB h A) (hlen:(shT h A).length≤140737488355328):Calls Tryz.prog 11 #[va] w fun e w'=>e= .returned (.tuple #[.string ⟨(txAP h A).toArray⟩,.int .i64 (txE h A)])∧Below w.heap.size w w':=by
 obtain ⟨aop,aat,avk,atx,avn,avx,aio,ayo,ano,ako,avi,aic,avy,ayc,ann,anc,akn,akc,rfl⟩:=inA_shape hA;have hb1:=q0a w (.cells #[.int .i64 aop,.int .i64 aat,.string atx,.int .i64 avk,.string avn,.string avx,.slice aio avi aic,.slice ayo avy ayc,.slice ano ann anc,.slice ako akn akc] 28);have HF:=hQz (w_FormedP h A _ _ (hA.low hb1));have HX:=hQz (B1.new (w:=w) (ca:= #[.int .i64 aop,.int .i64 aat,.string atx,.int .i64 avk,.string avn,.string avx,.slice aio avi aic,.slice ayo avy ayc,.slice ano ann anc,.slice ako akn akc]) (t:=28) rfl);have HN:Hid (∀ u,Below w.heap.size w u→B1 w #[.int .i64 aop,.int .i64 aat,.string atx,.int .i64 avk,.string avn,.string avx,.slice aio avi aic,.slice ayo avy ayc,.slice ano ann anc,.slice ako akn akc] 28 u→NAt u h A w.heap.size 0):=fun u hu hx=>nat_box (c:=c10 (.int .i64 aop) (.int .i64 aat) (.string atx) (.int .i64 avk) (.string avn) (.string avx) (.slice aio avi aic) (.slice ayo avy ayc) (.slice ano ann anc) (.slice ako akn akc)) hx.a (hA.low hu);have HTb:Hid (∀ u,Below w.heap.size w u→PTabIn u):=fun u hu=>hT.keep hu;have HTx:=hQz htx;have HL:=hQz hlen;unfold txAP txE
 cases hf:fpN h A with
 | false=>
  rw [hf] at HF;rw [if_neg (by decide),if_neg (by decide)];clear hA hT htx hlen hf hb1;go_in;go_wp2_with fail;refine HF.out.mono ?_;rintro e w2 ⟨rfl,hb2⟩;have HB2:=hQz (HX.out.keep hb2);clear hb2;go_wp2_with fail
  go_ret2
  exact ⟨rfl,HB2.out.below⟩
 | true=>
  have HTl:=hQz (fun u (hu:NAt u h A w.heap.size 0) (S:Nat)=>w_tell u S h A w.heap.size 0 hu hf HTx.out);rw [hf] at HF;rw [if_pos rfl,if_pos rfl];clear hA hT htx hlen hf hb1 HTx;go_in;go_wp2_with fail;refine HF.out.mono ?_;rintro e w2 ⟨rfl,hb2⟩;have HB2:=hQz (HX.out.keep hb2);clear hb2;have HP2:=hQz (pen_new w2 (HTb.out _ HB2.out.below));have HS2:=hQz (HTl.out w2 (HN.out _ HB2.out.below HB2.out) w2.heap.size);clear HTl HN HX HF;go_wp2_with fail;refine (HS2.out _ _ HP2.out (by have:=HL.out;simpa using this)).mono ?_;rintro e w3 ⟨rfl,hp3,hk3⟩;rw [List.nil_append] at hp3;have HP3:=hQz hp3;have HStr:=hQz (w_String w2.heap.size w2.heap.size _ w3 hp3.pen);clear hp3 hk3 HS2 HP2;go_wp2_with fail;refine HStr.out.mono ?_;rintro e w4 ⟨rfl,hb4⟩;have HB4:Hid (Below w.heap.size w w4):=HB2.out.below.trans ((HP3.out.low.trans hb4).mono HB2.out.below.size);clear hb4;go_wp2_with fail
  go_ret2
  exact ⟨rfl,HB4.out⟩
def nnS:NT:= .mk 1 0 .empty vt0 [] []
theorem inA_self (w:World):InA w 1 nnS (.agg #[.int .i64 1,.int .i64 0,.string ⟨#[]⟩,.int .i64 0,.string ⟨#[]⟩,.string ⟨#[]⟩,.slice none 0 0,.slice none 0 0,.slice none 0 0,.slice none 0 0]):=by
 refine ⟨none,0,none,0,none,0,none,0,rfl,by decide,InV.ofH (inH_0 w 0),⟨Nat.le_refl _,by decide,fun k hk=>by cases hk⟩,⟨Nat.le_refl _,by decide⟩,fun h=>absurd h (by decide),fun h=>absurd h (by decide)⟩
theorem fp_self:fpN 1 nnS=true:=by
 rw [fpN];have e1:sq vt0 vt0=true:=q2j.2 rfl;simp [nnS,NT.op,NT.kids,NT.text,NT.value,NT.names,mfB,ttB,nmO,vfB,nsB,e1]
theorem sh_self:shT 1 nnS=[46]:=by rw [shT_up];rfl
theorem tx_self:TxB 1 nnS:=⟨by decide,fun i hi=>absurd hi (Nat.not_lt_zero i)⟩
theorem ky_end:pKy ⟨#[101,110,100]⟩=[101,110,100]∧pKe1 ⟨#[101,110,100]⟩=0:=by
 have h1:okB [101,110,100]=true:=by decide
 have h2:q2k [101,110,100]=true:=by decide
 unfold pKy pKe1;simp only [h1,h2];exact ⟨rfl,rfl⟩
theorem w_works (w:World) (hT:PTabIn w):Calls Tryz.prog 9 #[] w fun e w'=>e= .returned (.bool true)∧Below w.heap.size w w':=by
 have HTx:=hQz (w_TextP 1 nnS _ w (inA_self w) hT tx_self (by rw [sh_self];decide));have HKy:=hQz (fun u=>w_KeyP ⟨#[101,110,100]⟩ u (by decide));unfold txAP txE at HTx;rw [fp_self,if_pos rfl,if_pos rfl,sh_self] at HTx;rw [ky_end.1,ky_end.2] at HKy;clear hT;go_in;go_wp2_with fail;refine HTx.out.mono ?_;rintro e w1 ⟨rfl,hb1⟩;have HB1:=hQz hb1;clear hb1;go_wp2_with fail;refine (HKy.out _).mono ?_;rintro e w2 ⟨rfl,hb2⟩;have HB2:=hQz (HB1.out.trans (hb2.mono HB1.out.size));clear hb2;go_wp2_with fail;go_ret;exact ⟨rfl,HB2.out⟩
end Go.Proofs.YtdjleoglphgdgaaGreatDoor
