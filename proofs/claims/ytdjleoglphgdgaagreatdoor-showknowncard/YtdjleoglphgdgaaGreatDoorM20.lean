import Derived.Test.YtdjleoglphgdgaaGreatDoorM19
set_option linter.unusedVariables false
set_option linter.unusedSimpArgs false
namespace Go.Proofs.YtdjleoglphgdgaaGreatDoor
open Go.RowKit
set_option maxRecDepth 100000
set_option maxHeartbeats 12800000
theorem formv_5 (nm tx:ByteArray) (io:Option Addr) (N icap:Nat) (ko:Option Addr) (K kcap:Nat) (A R O:Bool) (w:World)
 (HAll:Hid (∀ u,Below w.heap.size w u→Calls Tryz.prog 178 #[.slice io N icap] u fun e w'=>e= .returned (.bool A)∧Below u.heap.size u w'))
 (HR:Hid (∀ u,Below w.heap.size w u→Calls Tryz.prog 179 #[.slice ko K kcap] u fun e w'=>e= .returned (.bool R)∧Below u.heap.size u w'))
 (HO:Hid (∀ u,Below w.heap.size w u→Calls Tryz.prog 180 #[.slice ko K kcap] u fun e w'=>e= .returned (.bool O)∧Below u.heap.size u w'))
 (hn:nm.size≤140737488355328) (ht:tx.size≤140737488355328) (hN:N≤icap) (hK:K≤kcap):
 Calls Tryz.prog 134 #[.agg #[.int .i64 5,.string nm,.string tx,.slice io N icap,.slice ko K kcap]] w fun e w'=>e= .returned (.bool (q0L 5 nm tx N K A (R&&O)))∧Below w.heap.size w w':=by
 have HNum:Hid (∀ u,Below w.heap.size w u→Calls Tryz.prog 149 #[.string nm] u fun e w'=>e= .returned (.bool (Pl.formed nm.data.toList))∧Below u.heap.size u w'):=fun u _=>q1a nm u (by unfold maxLen;omega);have HUtf:Hid (∀ u,Below w.heap.size w u→Calls Tryz.prog 34 #[.string tx] u fun e w'=>e= .returned (.bool (okB tx.data.toList))∧Below u.heap.size u w'):=fun u _=>q1J tx u (by omega);have HX:=hQz (q28 w (.int .i64 5) (.string nm) (.string tx) (.slice io N icap) (.slice ko K kcap) (.string nm) (.string tx) (.slice none 0 0) (.slice ko K kcap))
 cases hc:A with
 | false=>
  have HF:Hid (q0L 5 nm tx N K false (R&&O)=false):=by show _=_;unfold q0L;rw [if_neg (by omega),if_neg (by omega),if_neg (by omega),if_pos rfl];rfl
  rw [hc] at HAll;go_enter Tryz.func134,Tryz.ntmps134;go_wp2_with fail;refine (HAll.out _ HX.out.one.below).mono ?_;rintro e w2 ⟨rfl,hw2⟩;have HX2:=hQz (HX.out.keep hw2);clear hw2;go_wp2_with fail;go_ret;exact ⟨by rw [HF.out];rfl,HX2.out.one.below⟩
 | true=>
  have HF:Hid (q0L 5 nm tx N K true (R&&O)=bareB nm tx 0 K):=by show _=_;unfold q0L;rw [if_neg (by omega),if_neg (by omega),if_neg (by omega),if_pos rfl];rfl
  rw [hc] at HAll;go_enter Tryz.func134,Tryz.ntmps134;go_wp2_with fail;refine (HAll.out _ HX.out.one.below).mono ?_;rintro e w2 ⟨rfl,hw2⟩;have HX2:=hQz (HX.out.keep hw2);clear hw2;have q0HX2:=HX2.out.d0;have q1HX2:=HX2.out.d1;have q2HX2:=HX2.out.d2;have q3HX2:=HX2.out.d3;have q4HX2:=HX2.out.d4;go_wp2_with fail;refine (w_bare 5 nm tx none 0 0 ko K kcap _).mono ?_;rintro e w9 ⟨rfl,hb9⟩;have HX9:=hQz (HX2.out.keep hb9);clear hb9;go_wp2_with fail;go_ret;exact ⟨by rw [HF.out];rfl,HX9.out.one.below⟩
theorem formv_6 (nm tx:ByteArray) (io:Option Addr) (N icap:Nat) (ko:Option Addr) (K kcap:Nat) (A R O:Bool) (w:World)
 (HAll:Hid (∀ u,Below w.heap.size w u→Calls Tryz.prog 178 #[.slice io N icap] u fun e w'=>e= .returned (.bool A)∧Below u.heap.size u w'))
 (HR:Hid (∀ u,Below w.heap.size w u→Calls Tryz.prog 179 #[.slice ko K kcap] u fun e w'=>e= .returned (.bool R)∧Below u.heap.size u w'))
 (HO:Hid (∀ u,Below w.heap.size w u→Calls Tryz.prog 180 #[.slice ko K kcap] u fun e w'=>e= .returned (.bool O)∧Below u.heap.size u w'))
 (hn:nm.size≤140737488355328) (ht:tx.size≤140737488355328) (hN:N≤icap) (hK:K≤kcap):
 Calls Tryz.prog 134 #[.agg #[.int .i64 6,.string nm,.string tx,.slice io N icap,.slice ko K kcap]] w fun e w'=>e= .returned (.bool (q0L 6 nm tx N K A (R&&O)))∧Below w.heap.size w w':=by
 have HNum:Hid (∀ u,Below w.heap.size w u→Calls Tryz.prog 149 #[.string nm] u fun e w'=>e= .returned (.bool (Pl.formed nm.data.toList))∧Below u.heap.size u w'):=fun u _=>q1a nm u (by unfold maxLen;omega);have HUtf:Hid (∀ u,Below w.heap.size w u→Calls Tryz.prog 34 #[.string tx] u fun e w'=>e= .returned (.bool (okB tx.data.toList))∧Below u.heap.size u w'):=fun u _=>q1J tx u (by omega);have HX:=hQz (q28 w (.int .i64 6) (.string nm) (.string tx) (.slice io N icap) (.slice ko K kcap) (.string nm) (.string tx) (.slice none 0 0) (.slice none 0 0));by_cases hKN:K=N
 · have hKN1:((K:Int)==(N:Int))=true:=by rw [beq_iff_eq];omega
   have HKN:Hid (decide (K=N)=true):=decide_eq_true hKN;clear hKN
   cases hR:R with
   | false=>
    have HF:Hid (q0L 6 nm tx N K A (false&&O)=false):=by show _=_;unfold q0L;rw [if_neg (by omega),if_neg (by omega),if_neg (by omega),if_neg (by omega),if_pos rfl];simp
    rw [hR] at HR;go_enter Tryz.func134,Tryz.ntmps134;go_wp2_with fail;refine (HR.out _ HX.out.one.below).mono ?_;rintro e w2 ⟨rfl,hw2⟩;have HX2:=hQz (HX.out.keep hw2);clear hw2;have p3HX2:=HX2.out.one.c3;have p4HX2:=HX2.out.one.c4;go_wp2_with fail;go_ret;exact ⟨by rw [HF.out];rfl,HX2.out.one.below⟩
   | true=>
    rw [hR] at HR
    cases hO:O with
    | false=>
     have HF:Hid (q0L 6 nm tx N K A (true&&false)=false):=by show _=_;unfold q0L;rw [if_neg (by omega),if_neg (by omega),if_neg (by omega),if_neg (by omega),if_pos rfl];simp
     rw [hO] at HO;go_enter Tryz.func134,Tryz.ntmps134;go_wp2_with fail;refine (HR.out _ HX.out.one.below).mono ?_;rintro e w2 ⟨rfl,hw2⟩;have HX2:=hQz (HX.out.keep hw2);clear hw2;have p3HX2:=HX2.out.one.c3;have p4HX2:=HX2.out.one.c4;go_wp2_with fail;refine (HO.out _ HX2.out.one.below).mono ?_;rintro e w3 ⟨rfl,hw3⟩;have HX3:=hQz (HX2.out.keep hw3);clear hw3;have p3HX3:=HX3.out.one.c3;have p4HX3:=HX3.out.one.c4;go_wp2_with fail;go_ret;exact ⟨by rw [HF.out];rfl,HX3.out.one.below⟩
    | true=>
     rw [hO] at HO
     cases hA:A with
     | false=>
      have HF:Hid (q0L 6 nm tx N K false (true&&true)=false):=by show _=_;unfold q0L;rw [if_neg (by omega),if_neg (by omega),if_neg (by omega),if_neg (by omega),if_pos rfl];simp
      rw [hA] at HAll;go_enter Tryz.func134,Tryz.ntmps134;go_wp2_with fail;refine (HR.out _ HX.out.one.below).mono ?_;rintro e w2 ⟨rfl,hw2⟩;have HX2:=hQz (HX.out.keep hw2);clear hw2;have p3HX2:=HX2.out.one.c3;have p4HX2:=HX2.out.one.c4;go_wp2_with fail;refine (HO.out _ HX2.out.one.below).mono ?_;rintro e w3 ⟨rfl,hw3⟩;have HX3:=hQz (HX2.out.keep hw3);clear hw3;have p3HX3:=HX3.out.one.c3;have p4HX3:=HX3.out.one.c4;go_wp2_with fail;refine (HAll.out _ HX3.out.one.below).mono ?_;rintro e w4 ⟨rfl,hw4⟩;have HX4:=hQz (HX3.out.keep hw4);clear hw4;have q0HX4:=HX4.out.d0;have q1HX4:=HX4.out.d1;have q2HX4:=HX4.out.d2;have q3HX4:=HX4.out.d3;have q4HX4:=HX4.out.d4;go_wp2_with fail;go_ret;exact ⟨by rw [HF.out];rfl,HX4.out.one.below⟩
     | true=>
      have HF:Hid (q0L 6 nm tx N K true (true&&true)=bareB nm tx 0 0):=by show _=_;unfold q0L;rw [if_neg (by omega),if_neg (by omega),if_neg (by omega),if_neg (by omega),if_pos rfl,HKN.out];rfl
      rw [hA] at HAll;go_enter Tryz.func134,Tryz.ntmps134;go_wp2_with fail;refine (HR.out _ HX.out.one.below).mono ?_;rintro e w2 ⟨rfl,hw2⟩;have HX2:=hQz (HX.out.keep hw2);clear hw2;have p3HX2:=HX2.out.one.c3;have p4HX2:=HX2.out.one.c4;go_wp2_with fail;refine (HO.out _ HX2.out.one.below).mono ?_;rintro e w3 ⟨rfl,hw3⟩;have HX3:=hQz (HX2.out.keep hw3);clear hw3;have p3HX3:=HX3.out.one.c3;have p4HX3:=HX3.out.one.c4;go_wp2_with fail;refine (HAll.out _ HX3.out.one.below).mono ?_;rintro e w4 ⟨rfl,hw4⟩;have HX4:=hQz (HX3.out.keep hw4);clear hw4;have q0HX4:=HX4.out.d0;have q1HX4:=HX4.out.d1;have q2HX4:=HX4.out.d2;have q3HX4:=HX4.out.d3;have q4HX4:=HX4.out.d4;go_wp2_with fail;refine (w_bare 6 nm tx none 0 0 none 0 0 _).mono ?_;rintro e w9 ⟨rfl,hb9⟩;have HX9:=hQz (HX4.out.keep hb9);clear hb9;go_wp2_with fail;go_ret;exact ⟨by rw [HF.out];rfl,HX9.out.one.below⟩
 · have hKN1:((K:Int)==(N:Int))=false:=by rw [bqZ];omega
   have HF:Hid (q0L 6 nm tx N K A (R&&O)=false):=by show _=_;unfold q0L;rw [if_neg (by omega),if_neg (by omega),if_neg (by omega),if_neg (by omega),if_pos rfl,decide_eq_false hKN];simp
   clear hKN;go_enter Tryz.func134,Tryz.ntmps134;go_wp2_with fail;go_ret;exact ⟨by rw [HF.out];rfl,HX.out.one.below⟩
theorem formv_else (kd:Int) (k0:kd≠0) (k1:kd≠1) (k2:kd≠2) (k3:kd≠3) (k4:kd≠4) (k5:kd≠5) (k6:kd≠6) (nm tx:ByteArray) (io:Option Addr) (N icap:Nat) (ko:Option Addr) (K kcap:Nat) (A R O:Bool) (w:World)
 (HAll:Hid (∀ u,Below w.heap.size w u→Calls Tryz.prog 178 #[.slice io N icap] u fun e w'=>e= .returned (.bool A)∧Below u.heap.size u w'))
 (HR:Hid (∀ u,Below w.heap.size w u→Calls Tryz.prog 179 #[.slice ko K kcap] u fun e w'=>e= .returned (.bool R)∧Below u.heap.size u w'))
 (HO:Hid (∀ u,Below w.heap.size w u→Calls Tryz.prog 180 #[.slice ko K kcap] u fun e w'=>e= .returned (.bool O)∧Below u.heap.size u w'))
 (hn:nm.size≤140737488355328) (ht:tx.size≤140737488355328) (hN:N≤icap) (hK:K≤kcap):
 Calls Tryz.prog 134 #[.agg #[.int .i64 kd,.string nm,.string tx,.slice io N icap,.slice ko K kcap]] w fun e w'=>e= .returned (.bool (q0L kd nm tx N K A (R&&O)))∧Below w.heap.size w w':=by
 have HNum:Hid (∀ u,Below w.heap.size w u→Calls Tryz.prog 149 #[.string nm] u fun e w'=>e= .returned (.bool (Pl.formed nm.data.toList))∧Below u.heap.size u w'):=fun u _=>q1a nm u (by unfold maxLen;omega);have HUtf:Hid (∀ u,Below w.heap.size w u→Calls Tryz.prog 34 #[.string tx] u fun e w'=>e= .returned (.bool (okB tx.data.toList))∧Below u.heap.size u w'):=fun u _=>q1J tx u (by omega);have HX:=hQz (q28 w (.int .i64 kd) (.string nm) (.string tx) (.slice io N icap) (.slice ko K kcap) (.string nm) (.string tx) (.slice io N icap) (.slice ko K kcap));have HF:Hid (q0L kd nm tx N K A (R&&O)=false):=by show _=_;unfold q0L;rw [if_neg (by omega),if_neg (by omega),if_neg (by omega),if_neg (by omega),if_neg (by omega)]
 have b0:(kd==0)=false:=by rw [bqZ];exact k0
 have b1:(kd==1)=false:=by rw [bqZ];exact k1
 have b2:(kd==2)=false:=by rw [bqZ];exact k2
 have b3:(kd==3)=false:=by rw [bqZ];exact k3
 have b4:(kd==4)=false:=by rw [bqZ];exact k4
 have b5:(kd==5)=false:=by rw [bqZ];exact k5
 have b6:(kd==6)=false:=by rw [bqZ];exact k6
 clear k0 k1 k2 k3 k4 k5 k6;go_enter Tryz.func134,Tryz.ntmps134;go_wp2_with fail;go_ret;exact ⟨by rw [HF.out];rfl,HX.out.one.below⟩
theorem formv_ok (kd:Int) (nm tx:ByteArray) (io:Option Addr) (N icap:Nat) (ko:Option Addr) (K kcap:Nat) (A R O:Bool) (w:World)
 (HAll:Hid (∀ u,Below w.heap.size w u→Calls Tryz.prog 178 #[.slice io N icap] u fun e w'=>e= .returned (.bool A)∧Below u.heap.size u w'))
 (HR:Hid (∀ u,Below w.heap.size w u→Calls Tryz.prog 179 #[.slice ko K kcap] u fun e w'=>e= .returned (.bool R)∧Below u.heap.size u w'))
 (HO:Hid (∀ u,Below w.heap.size w u→Calls Tryz.prog 180 #[.slice ko K kcap] u fun e w'=>e= .returned (.bool O)∧Below u.heap.size u w'))
 (hn:nm.size≤140737488355328) (ht:tx.size≤140737488355328) (hN:N≤icap) (hK:K≤kcap):
 Calls Tryz.prog 134 #[.agg #[.int .i64 kd,.string nm,.string tx,.slice io N icap,.slice ko K kcap]] w fun e w'=>e= .returned (.bool (q0L kd nm tx N K A (R&&O)))∧Below w.heap.size w w':=by
 by_cases k0:kd=0
 · subst k0;exact formv_0 nm tx io N icap ko K kcap A R O w HAll HR HO hn ht hN hK
 by_cases k1:kd=1
 · subst k1;exact formv_1 nm tx io N icap ko K kcap A R O w HAll HR HO hn ht hN hK
 by_cases k2:kd=2
 · subst k2;exact formv_2 nm tx io N icap ko K kcap A R O w HAll HR HO hn ht hN hK
 by_cases k3:kd=3
 · subst k3;exact formv_3 nm tx io N icap ko K kcap A R O w HAll HR HO hn ht hN hK
 by_cases k4:kd=4
 · subst k4;exact formv_4 nm tx io N icap ko K kcap A R O w HAll HR HO hn ht hN hK
 by_cases k5:kd=5
 · subst k5;exact formv_5 nm tx io N icap ko K kcap A R O w HAll HR HO hn ht hN hK
 by_cases k6:kd=6
 · subst k6;exact formv_6 nm tx io N icap ko K kcap A R O w HAll HR HO hn ht hN hK
 exact formv_else kd k0 k1 k2 k3 k4 k5 k6 nm tx io N icap ko K kcap A R O w HAll HR HO hn ht hN hK
theorem w_vFormed:∀ h,FvOk h
 | 0=>fun T v w hI=>hI.elim
 | h+1=>fun T v w hI=>by
  obtain ⟨io,icap,ko,kcap,rfl,a1,a2,a3,a4,a5,a6,a7,hk,hi⟩:=hI.open
  exact formv_ok T.kind T.num T.text io T.items.length icap ko T.keys.length kcap (T.items.all (q1M h)) (rK T.keys T.keys.length) (oK T.keys T.keys.length) w
   (fun u hu=>w_allFormed h (w_vFormed h) io T.items.length icap T.items u (hi.keep hu) rfl a5 a3)
   (fun u hu=>w_rising ko T.keys.length kcap T.keys u (hk.keep hu) rfl a6 a4)
   (fun u hu=>w_allValid ko T.keys.length kcap T.keys u (hk.keep hu) rfl a6 a4 a7) a1 a2 a5 a6
end Go.Proofs.YtdjleoglphgdgaaGreatDoor
