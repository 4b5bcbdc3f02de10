import Derived.Test.YtnokkmiaeacogaaGreatM8
import Derived.Test.YtnokkmiaeacogaaGreatM28
set_option linter.unusedVariables false
set_option linter.unusedSimpArgs false
namespace Go.Proofs.YtnokkmiaeacogaaGreat
open Go.RowKit Go.Shelf Go.Sort
attribute [local go_sem] Oper.semAt_some
set_option maxRecDepth 100000
set_option maxHeartbeats 12800000
section
variable (b0 b1 b2 b3:Bool) (no:Option Addr) (nn nc:Nat) (b5:Bool) (xo:Option Addr) (nx xc:Nat) (ao:Option Addr) (NA ac:Nat) (oo:Option Addr) (NO oc:Nat) (w:World) (B:Nat)
theorem w_hasNull (hx:AskBx w B b0 b1 b2 b3 no nn nc b5 xo nx xc ao NA ac oo NO oc):Calls Tryz.prog 154 #[.pointer (some ⟨B,0,none⟩)] w fun e w'=>e= .returned (.bool b1)∧w'=w:=by
 obtain ⟨q0,q1,q2,q3,q4,q5,q6,q7,q8⟩:=hx.nine;simp only [Nat.zero_add] at q1 q2 q3 q4 q5 q6 q7 q8;go_enter Tryz.func154,Tryz.ntmps154;go_wp2_with fail;go_ret;exact ⟨rfl,rfl⟩
theorem w_hasFalse (hx:AskBx w B b0 b1 b2 b3 no nn nc b5 xo nx xc ao NA ac oo NO oc):Calls Tryz.prog 155 #[.pointer (some ⟨B,0,none⟩)] w fun e w'=>e= .returned (.bool b2)∧w'=w:=by
 obtain ⟨q0,q1,q2,q3,q4,q5,q6,q7,q8⟩:=hx.nine;simp only [Nat.zero_add] at q1 q2 q3 q4 q5 q6 q7 q8;go_enter Tryz.func155,Tryz.ntmps155;go_wp2_with fail;go_ret;exact ⟨rfl,rfl⟩
theorem w_hasTrue (hx:AskBx w B b0 b1 b2 b3 no nn nc b5 xo nx xc ao NA ac oo NO oc):Calls Tryz.prog 156 #[.pointer (some ⟨B,0,none⟩)] w fun e w'=>e= .returned (.bool b3)∧w'=w:=by
 obtain ⟨q0,q1,q2,q3,q4,q5,q6,q7,q8⟩:=hx.nine;simp only [Nat.zero_add] at q1 q2 q3 q4 q5 q6 q7 q8;go_enter Tryz.func156,Tryz.ntmps156;go_wp2_with fail;go_ret;exact ⟨rfl,rfl⟩
theorem gt0_dec (n:Nat):decide (0<(n:Int))=decide (0<n):=decide_eq_decide.2 (by omega)
theorem w_hasNumbers (hx:AskBx w B b0 b1 b2 b3 no nn nc b5 xo nx xc ao NA ac oo NO oc) (h1:nn≤140737488355328):Calls Tryz.prog 157 #[.pointer (some ⟨B,0,none⟩)] w fun e w'=>e= .returned (.bool (decide (0<nn)))∧w'=w:=by
 obtain ⟨q0,q1,q2,q3,q4,q5,q6,q7,q8⟩:=hx.nine;simp only [Nat.zero_add] at q1 q2 q3 q4 q5 q6 q7 q8;have HE:=hQz (gt0_dec nn);go_enter Tryz.func157,Tryz.ntmps157;go_wp2_with fail;go_ret;exact ⟨by first|(rw [← HE.out];rfl)|(rw [← HE.out];simp),rfl⟩
theorem w_hasArrays (hx:AskBx w B b0 b1 b2 b3 no nn nc b5 xo nx xc ao NA ac oo NO oc) (h1:NA≤140737488355328):Calls Tryz.prog 159 #[.pointer (some ⟨B,0,none⟩)] w fun e w'=>e= .returned (.bool (decide (0<NA)))∧w'=w:=by
 obtain ⟨q0,q1,q2,q3,q4,q5,q6,q7,q8⟩:=hx.nine;simp only [Nat.zero_add] at q1 q2 q3 q4 q5 q6 q7 q8;have HE:=hQz (gt0_dec NA);go_enter Tryz.func159,Tryz.ntmps159;go_wp2_with fail;go_ret;exact ⟨by first|(rw [← HE.out];rfl)|(rw [← HE.out];simp),rfl⟩
theorem w_hasObjects (hx:AskBx w B b0 b1 b2 b3 no nn nc b5 xo nx xc ao NA ac oo NO oc) (h1:NO≤140737488355328):Calls Tryz.prog 160 #[.pointer (some ⟨B,0,none⟩)] w fun e w'=>e= .returned (.bool (decide (0<NO)))∧w'=w:=by
 obtain ⟨q0,q1,q2,q3,q4,q5,q6,q7,q8⟩:=hx.nine;simp only [Nat.zero_add] at q1 q2 q3 q4 q5 q6 q7 q8;have HE:=hQz (gt0_dec NO);go_enter Tryz.func160,Tryz.ntmps160;go_wp2_with fail;go_ret;exact ⟨by first|(rw [← HE.out];rfl)|(rw [← HE.out];simp),rfl⟩
theorem w_hasTexts (hx:AskBx w B b0 b1 b2 b3 no nn nc b5 xo nx xc ao NA ac oo NO oc) (h1:nx≤140737488355328):Calls Tryz.prog 158 #[.pointer (some ⟨B,0,none⟩)] w fun e w'=>e= .returned (.bool (b5||decide (0<nx)))∧w'=w:=by
 obtain ⟨q0,q1,q2,q3,q4,q5,q6,q7,q8⟩:=hx.nine;simp only [Nat.zero_add] at q1 q2 q3 q4 q5 q6 q7 q8;have HE:=hQz (gt0_dec nx)
 cases b5
 · go_enter Tryz.func158,Tryz.ntmps158;go_wp2_with fail;go_ret;exact ⟨by first|(rw [← HE.out];rfl)|(rw [← HE.out];simp),rfl⟩
 · go_enter Tryz.func158,Tryz.ntmps158;go_wp2_with fail;go_ret;exact ⟨by first|rfl|simp,rfl⟩
end
theorem w_bitn0 (w:World):Calls Tryz.prog 142 #[.int .i64 0] w fun e w'=>e= .returned (.int .u8 1)∧w'=w:=by
 go_enter Tryz.func142,Tryz.ntmps142;go_wp2_with fail;go_ret;exact ⟨by first|rfl|decide,rfl⟩
theorem w_bitn1 (w:World):Calls Tryz.prog 142 #[.int .i64 1] w fun e w'=>e= .returned (.int .u8 2)∧w'=w:=by
 go_enter Tryz.func142,Tryz.ntmps142;go_wp2_with fail;go_ret;exact ⟨by first|rfl|decide,rfl⟩
theorem w_bitn2 (w:World):Calls Tryz.prog 142 #[.int .i64 2] w fun e w'=>e= .returned (.int .u8 4)∧w'=w:=by
 go_enter Tryz.func142,Tryz.ntmps142;go_wp2_with fail;go_ret;exact ⟨by first|rfl|decide,rfl⟩
theorem w_bitn3 (w:World):Calls Tryz.prog 142 #[.int .i64 3] w fun e w'=>e= .returned (.int .u8 8)∧w'=w:=by
 go_enter Tryz.func142,Tryz.ntmps142;go_wp2_with fail;go_ret;exact ⟨by first|rfl|decide,rfl⟩
theorem w_bitn4 (w:World):Calls Tryz.prog 142 #[.int .i64 4] w fun e w'=>e= .returned (.int .u8 16)∧w'=w:=by
 go_enter Tryz.func142,Tryz.ntmps142;go_wp2_with fail;go_ret;exact ⟨by first|rfl|decide,rfl⟩
theorem w_bitn5 (w:World):Calls Tryz.prog 142 #[.int .i64 5] w fun e w'=>e= .returned (.int .u8 32)∧w'=w:=by
 go_enter Tryz.func142,Tryz.ntmps142;go_wp2_with fail;go_ret;exact ⟨by first|rfl|decide,rfl⟩
theorem w_bitn6 (w:World):Calls Tryz.prog 142 #[.int .i64 6] w fun e w'=>e= .returned (.int .u8 64)∧w'=w:=by
 go_enter Tryz.func142,Tryz.ntmps142;go_wp2_with fail;go_ret;exact ⟨by first|rfl|decide,rfl⟩
theorem has_ix0 (B:Nat) (u:World):(Instr.index 185 (.agg #[.func (.func 154) #[.pointer (some ⟨B,0,none⟩)] #[],.func (.func 155) #[.pointer (some ⟨B,0,none⟩)] #[],.func (.func 156) #[.pointer (some ⟨B,0,none⟩)] #[],.func (.func 157) #[.pointer (some ⟨B,0,none⟩)] #[],.func (.func 158) #[.pointer (some ⟨B,0,none⟩)] #[],.func (.func 159) #[.pointer (some ⟨B,0,none⟩)] #[],.func (.func 160) #[.pointer (some ⟨B,0,none⟩)] #[]]) (.int .i64 0)).run Tryz.prog u= .ok (.func (.func 154) #[.pointer (some ⟨B,0,none⟩)] #[]) u:=by kernel_rfl
theorem has_ix1 (B:Nat) (u:World):(Instr.index 185 (.agg #[.func (.func 154) #[.pointer (some ⟨B,0,none⟩)] #[],.func (.func 155) #[.pointer (some ⟨B,0,none⟩)] #[],.func (.func 156) #[.pointer (some ⟨B,0,none⟩)] #[],.func (.func 157) #[.pointer (some ⟨B,0,none⟩)] #[],.func (.func 158) #[.pointer (some ⟨B,0,none⟩)] #[],.func (.func 159) #[.pointer (some ⟨B,0,none⟩)] #[],.func (.func 160) #[.pointer (some ⟨B,0,none⟩)] #[]]) (.int .i64 1)).run Tryz.prog u= .ok (.func (.func 155) #[.pointer (some ⟨B,0,none⟩)] #[]) u:=by kernel_rfl
theorem has_ix2 (B:Nat) (u:World):(Instr.index 185 (.agg #[.func (.func 154) #[.pointer (some ⟨B,0,none⟩)] #[],.func (.func 155) #[.pointer (some ⟨B,0,none⟩)] #[],.func (.func 156) #[.pointer (some ⟨B,0,none⟩)] #[],.func (.func 157) #[.pointer (some ⟨B,0,none⟩)] #[],.func (.func 158) #[.pointer (some ⟨B,0,none⟩)] #[],.func (.func 159) #[.pointer (some ⟨B,0,none⟩)] #[],.func (.func 160) #[.pointer (some ⟨B,0,none⟩)] #[]]) (.int .i64 2)).run Tryz.prog u= .ok (.func (.func 156) #[.pointer (some ⟨B,0,none⟩)] #[]) u:=by kernel_rfl
theorem has_ix3 (B:Nat) (u:World):(Instr.index 185 (.agg #[.func (.func 154) #[.pointer (some ⟨B,0,none⟩)] #[],.func (.func 155) #[.pointer (some ⟨B,0,none⟩)] #[],.func (.func 156) #[.pointer (some ⟨B,0,none⟩)] #[],.func (.func 157) #[.pointer (some ⟨B,0,none⟩)] #[],.func (.func 158) #[.pointer (some ⟨B,0,none⟩)] #[],.func (.func 159) #[.pointer (some ⟨B,0,none⟩)] #[],.func (.func 160) #[.pointer (some ⟨B,0,none⟩)] #[]]) (.int .i64 3)).run Tryz.prog u= .ok (.func (.func 157) #[.pointer (some ⟨B,0,none⟩)] #[]) u:=by kernel_rfl
theorem has_ix4 (B:Nat) (u:World):(Instr.index 185 (.agg #[.func (.func 154) #[.pointer (some ⟨B,0,none⟩)] #[],.func (.func 155) #[.pointer (some ⟨B,0,none⟩)] #[],.func (.func 156) #[.pointer (some ⟨B,0,none⟩)] #[],.func (.func 157) #[.pointer (some ⟨B,0,none⟩)] #[],.func (.func 158) #[.pointer (some ⟨B,0,none⟩)] #[],.func (.func 159) #[.pointer (some ⟨B,0,none⟩)] #[],.func (.func 160) #[.pointer (some ⟨B,0,none⟩)] #[]]) (.int .i64 4)).run Tryz.prog u= .ok (.func (.func 158) #[.pointer (some ⟨B,0,none⟩)] #[]) u:=by kernel_rfl
theorem has_ix5 (B:Nat) (u:World):(Instr.index 185 (.agg #[.func (.func 154) #[.pointer (some ⟨B,0,none⟩)] #[],.func (.func 155) #[.pointer (some ⟨B,0,none⟩)] #[],.func (.func 156) #[.pointer (some ⟨B,0,none⟩)] #[],.func (.func 157) #[.pointer (some ⟨B,0,none⟩)] #[],.func (.func 158) #[.pointer (some ⟨B,0,none⟩)] #[],.func (.func 159) #[.pointer (some ⟨B,0,none⟩)] #[],.func (.func 160) #[.pointer (some ⟨B,0,none⟩)] #[]]) (.int .i64 5)).run Tryz.prog u= .ok (.func (.func 159) #[.pointer (some ⟨B,0,none⟩)] #[]) u:=by kernel_rfl
theorem has_ix6 (B:Nat) (u:World):(Instr.index 185 (.agg #[.func (.func 154) #[.pointer (some ⟨B,0,none⟩)] #[],.func (.func 155) #[.pointer (some ⟨B,0,none⟩)] #[],.func (.func 156) #[.pointer (some ⟨B,0,none⟩)] #[],.func (.func 157) #[.pointer (some ⟨B,0,none⟩)] #[],.func (.func 158) #[.pointer (some ⟨B,0,none⟩)] #[],.func (.func 159) #[.pointer (some ⟨B,0,none⟩)] #[],.func (.func 160) #[.pointer (some ⟨B,0,none⟩)] #[]]) (.int .i64 6)).run Tryz.prog u= .ok (.func (.func 160) #[.pointer (some ⟨B,0,none⟩)] #[]) u:=by kernel_rfl
theorem w_has (B:Nat) (w:World):Calls Tryz.prog 141 #[.pointer (some ⟨B,0,none⟩)] w fun e w'=>e= .returned (.agg #[.func (.func 154) #[.pointer (some ⟨B,0,none⟩)] #[],.func (.func 155) #[.pointer (some ⟨B,0,none⟩)] #[],.func (.func 156) #[.pointer (some ⟨B,0,none⟩)] #[],.func (.func 157) #[.pointer (some ⟨B,0,none⟩)] #[],.func (.func 158) #[.pointer (some ⟨B,0,none⟩)] #[],.func (.func 159) #[.pointer (some ⟨B,0,none⟩)] #[],.func (.func 160) #[.pointer (some ⟨B,0,none⟩)] #[]])∧Below w.heap.size w w':=by
 have HB:=hQz (q05 w (.cells #[.func (.func 154) #[.pointer (some ⟨B,0,none⟩)] #[],.func (.func 155) #[.pointer (some ⟨B,0,none⟩)] #[],.func (.func 156) #[.pointer (some ⟨B,0,none⟩)] #[],.func (.func 157) #[.pointer (some ⟨B,0,none⟩)] #[],.func (.func 158) #[.pointer (some ⟨B,0,none⟩)] #[],.func (.func 159) #[.pointer (some ⟨B,0,none⟩)] #[],.func (.func 160) #[.pointer (some ⟨B,0,none⟩)] #[]] 185));go_enter Tryz.func141,Tryz.ntmps141;go_wp2_with fail;(try simp only [Exit.inBlock,Exit.then])
 refine bodyPost_ret (v:= .agg #[.func (.func 154) #[.pointer (some ⟨B,0,none⟩)] #[],.func (.func 155) #[.pointer (some ⟨B,0,none⟩)] #[],.func (.func 156) #[.pointer (some ⟨B,0,none⟩)] #[],.func (.func 157) #[.pointer (some ⟨B,0,none⟩)] #[],.func (.func 158) #[.pointer (some ⟨B,0,none⟩)] #[],.func (.func 159) #[.pointer (some ⟨B,0,none⟩)] #[],.func (.func 160) #[.pointer (some ⟨B,0,none⟩)] #[]]) (by simp [results,Tryz.results141,go_sem]) rfl ?_;exact ⟨rfl,HB.out⟩
def kvA (p:Int):List Bool→Int
 | []=>0
 | b::l=>(if b then p else 0)+kvA (2*p) l
def kvL (l:List Bool):Int:=kvA 1 l
def kdV (b0 b1 b2 b3 b5:Bool) (nn nx NA NO:Nat):Int:=if b0 then 127 else kvL [b1,b2,b3,decide (0<nn),(b5||decide (0<nx)),decide (0<NA),decide (0<NO)]
def kdN (T:TT):Int:=kdV T.all T.nul T.fls T.tru T.any T.nums.length T.texts.length T.arrs.length T.objs.length
theorem or_kv0:bits .or .u8 (kvL []) 1=kvL [true]:=by decide +kernel
theorem no_kv0:kvL [false]=kvL []:=by decide +kernel
theorem or_kv1:∀ a0:Bool,bits .or .u8 (kvL [a0]) 2=kvL [a0,true]:=by decide +kernel
theorem no_kv1:∀ a0:Bool,kvL [a0,false]=kvL [a0]:=by decide +kernel
theorem or_kv2:∀ a0 a1:Bool,bits .or .u8 (kvL [a0,a1]) 4=kvL [a0,a1,true]:=by decide +kernel
theorem no_kv2:∀ a0 a1:Bool,kvL [a0,a1,false]=kvL [a0,a1]:=by decide +kernel
theorem or_kv3:∀ a0 a1 a2:Bool,bits .or .u8 (kvL [a0,a1,a2]) 8=kvL [a0,a1,a2,true]:=by decide +kernel
theorem no_kv3:∀ a0 a1 a2:Bool,kvL [a0,a1,a2,false]=kvL [a0,a1,a2]:=by decide +kernel
theorem or_kv4:∀ a0 a1 a2 a3:Bool,bits .or .u8 (kvL [a0,a1,a2,a3]) 16=kvL [a0,a1,a2,a3,true]:=by decide +kernel
theorem no_kv4:∀ a0 a1 a2 a3:Bool,kvL [a0,a1,a2,a3,false]=kvL [a0,a1,a2,a3]:=by decide +kernel
theorem or_kv5:∀ a0 a1 a2 a3 a4:Bool,bits .or .u8 (kvL [a0,a1,a2,a3,a4]) 32=kvL [a0,a1,a2,a3,a4,true]:=by decide +kernel
theorem no_kv5:∀ a0 a1 a2 a3 a4:Bool,kvL [a0,a1,a2,a3,a4,false]=kvL [a0,a1,a2,a3,a4]:=by decide +kernel
theorem or_kv6:∀ a0 a1 a2 a3 a4 a5:Bool,bits .or .u8 (kvL [a0,a1,a2,a3,a4,a5]) 64=kvL [a0,a1,a2,a3,a4,a5,true]:=by decide +kernel
theorem no_kv6:∀ a0 a1 a2 a3 a4 a5:Bool,kvL [a0,a1,a2,a3,a4,a5,false]=kvL [a0,a1,a2,a3,a4,a5]:=by decide +kernel
theorem w_KindsX (b0 b1 b2 b3:Bool) (no:Option Addr) (nn nc:Nat) (b5:Bool) (xo:Option Addr) (nx xc:Nat) (ao:Option Addr) (NA ac:Nat) (oo:Option Addr) (NO oc:Nat) (w:World) (z1:nn≤140737488355328) (z2:nx≤140737488355328) (z3:NA≤140737488355328) (z4:NO≤140737488355328):
 Calls Tryz.prog 113 #[.agg #[.bool b0,.bool b1,.bool b2,.bool b3,.slice no nn nc,.bool b5,.slice xo nx xc,.slice ao NA ac,.slice oo NO oc]] w fun e w'=>e= .returned (.int .u8 (kdV b0 b1 b2 b3 b5 nn nx NA NO))∧Below w.heap.size w w':=by
 obtain ⟨R,hR⟩:∃ R,kdV b0 b1 b2 b3 b5 nn nx NA NO=R:=⟨_,rfl⟩;have HR0:=hQz hR.symm;rw [hR];clear hR;have HX0:=hQz (tbx_new w (.bool b0) (.bool b1) (.bool b2) (.bool b3) (.slice no nn nc) (.bool b5) (.slice xo nx xc) (.slice ao NA ac) (.slice oo NO oc));obtain ⟨W0,hW0⟩:∃ W0,w.alloc (.cells #[.bool b0,.bool b1,.bool b2,.bool b3,.slice no nn nc,.bool b5,.slice xo nx xc,.slice ao NA ac,.slice oo NO oc] 27)=W0:=⟨_,rfl⟩;have hs0:W0.heap.size=w.heap.size+1:=by rw [← hW0];simp
 rw [hW0] at HX0;obtain ⟨_,c0,c1,c2,c3,c4,c5,c6,c7,c8,_⟩:=HX0.out
 cases b0 with
 | true=>
  go_enter Tryz.func113,Tryz.ntmps113;go_wp2_with fail;go_ret;exact ⟨by rw [HR0.out];rfl,HX0.out.below⟩
 | false=>
  obtain ⟨W1,hW1⟩:∃ W1,W0.alloc (.cells #[.bool false,.bool b1,.bool b2,.bool b3,.slice no nn nc,.bool b5,.slice xo nx xc,.slice ao NA ac,.slice oo NO oc] 184)=W1:=⟨_,rfl⟩
  have HA:Hid (AskBx W1 (w.heap.size+1) false b1 b2 b3 no nn nc b5 xo nx xc ao NA ac oo NO oc):=by
   rw [← hW1,← hs0];exact ⟨⟨by simp [go_sem],by simp [go_sem],by simp [go_sem],by simp [go_sem],by simp [go_sem],by simp [go_sem],by simp [go_sem],by simp [go_sem],by simp [go_sem]⟩,by simp⟩
  have HB1:Hid (Below w.heap.size w W1):=by rw [← hW1];exact HX0.out.below.trans ((q05 W0 _).mono HX0.out.below.size)
  go_enter Tryz.func113,Tryz.ntmps113;go_wp2_with fail;refine (w_has _ _).mono ?_;rintro e w2 ⟨rfl,hq⟩;have HA2:=hQz (HA.out.keep hq);have HB2:=hQz (HB1.out.trans (hq.mono HB1.out.size));clear hq hW1 hW0 hs0 c0 c1 c2 c3 c4 c5 c6 c7 c8;have C0:=hQz (w_hasNull false b1 b2 b3 no nn nc b5 xo nx xc ao NA ac oo NO oc w2 (w.heap.size+1) HA2.out);have C1:=hQz (w_hasFalse false b1 b2 b3 no nn nc b5 xo nx xc ao NA ac oo NO oc w2 (w.heap.size+1) HA2.out);have C2:=hQz (w_hasTrue false b1 b2 b3 no nn nc b5 xo nx xc ao NA ac oo NO oc w2 (w.heap.size+1) HA2.out);have C3:=hQz (w_hasNumbers false b1 b2 b3 no nn nc b5 xo nx xc ao NA ac oo NO oc w2 (w.heap.size+1) HA2.out z1);have C4:=hQz (w_hasTexts false b1 b2 b3 no nn nc b5 xo nx xc ao NA ac oo NO oc w2 (w.heap.size+1) HA2.out z2);have C5:=hQz (w_hasArrays false b1 b2 b3 no nn nc b5 xo nx xc ao NA ac oo NO oc w2 (w.heap.size+1) HA2.out z3);have C6:=hQz (w_hasObjects false b1 b2 b3 no nn nc b5 xo nx xc ao NA ac oo NO oc w2 (w.heap.size+1) HA2.out z4);have HG:Hid (R=kvL [b1,b2,b3,(decide (0<nn)),(b5||decide (0<nx)),(decide (0<NA)),(decide (0<NO))]):=HR0.out;clear HR0;generalize (decide (0<nn))=h3 at C3 HG;generalize (b5||decide (0<nx))=h4 at C4 HG;generalize (decide (0<NA))=h5 at C5 HG;generalize (decide (0<NO))=h6 at C6 HG;go_wp2_with fail
  go_loopw [3,11] (fun rv i wr=>∃ (k:Nat) (r:Int),k≤7∧rv= .int .u8 r∧i= .int .i64 (k:Int)∧wr=w2∧Hid (r=kvL ([b1,b2,b3,h3,h4,h5,h6].take k))) (fun _ i _=>7-(intOf i).toNat)
  case atStart=>exact ⟨0,0,by omega,rfl,rfl,rfl,rfl⟩
  case round=>
   obtain ⟨k,r,hk,rfl,rfl,rfl,HQ⟩:=hrel;by_cases hlt:k<7
   · have hor:k=0∨k=1∨k=2∨k=3∨k=4∨k=5∨k=6:=by omega
     rcases hor with rfl|rfl|rfl|rfl|rfl|rfl|rfl
     · skip
       cases hh:b1 with
       | false=>
        have D:=C0;have ix:=has_ix0 (w.heap.size+1);rw [hh] at D;go_wp2_with fail;refine D.out.mono ?_;rintro e v3 ⟨rfl,rfl⟩;go_wp2_with fail;go_roundw
        case rel=>exact ⟨0+1,r,by omega,rfl,by go_num,by first|rfl|trivial,by have q:r=kvL []:=HQ.out;show r=kvL [false];rw [q];exact (no_kv0 ).symm⟩
        case measure=>simp [intOf]
       | true=>
        have D:=C0;have ix:=has_ix0 (w.heap.size+1);rw [hh] at D;go_wp2_with fail;refine D.out.mono ?_;rintro e v3 ⟨rfl,rfl⟩;go_wp2_with fail;refine (w_bitn0 _).mono ?_;rintro e v4 ⟨rfl,rfl⟩;go_wp2_with fail;refine ⟨⟨0+1,bits .or .u8 r 1,by omega,rfl,by go_num,by first|rfl|trivial,?_⟩,by simp [intOf]⟩;have q:r=kvL []:=HQ.out;show bits .or .u8 r 1=kvL [true];rw [q];exact or_kv0 
     · skip
       cases hh:b2 with
       | false=>
        have D:=C1;have ix:=has_ix1 (w.heap.size+1);rw [hh] at D;go_wp2_with fail;refine D.out.mono ?_;rintro e v3 ⟨rfl,rfl⟩;go_wp2_with fail;go_roundw
        case rel=>exact ⟨1+1,r,by omega,rfl,by go_num,by first|rfl|trivial,by have q:r=kvL [b1]:=HQ.out;show r=kvL [b1,false];rw [q];exact (no_kv1 b1).symm⟩
        case measure=>simp [intOf]
       | true=>
        have D:=C1;have ix:=has_ix1 (w.heap.size+1);rw [hh] at D;go_wp2_with fail;refine D.out.mono ?_;rintro e v3 ⟨rfl,rfl⟩;go_wp2_with fail;refine (w_bitn1 _).mono ?_;rintro e v4 ⟨rfl,rfl⟩;go_wp2_with fail;refine ⟨⟨1+1,bits .or .u8 r 2,by omega,rfl,by go_num,by first|rfl|trivial,?_⟩,by simp [intOf]⟩;have q:r=kvL [b1]:=HQ.out;show bits .or .u8 r 2=kvL [b1,true];rw [q];exact or_kv1 b1
     · skip
       cases hh:b3 with
       | false=>
        have D:=C2;have ix:=has_ix2 (w.heap.size+1);rw [hh] at D;go_wp2_with fail;refine D.out.mono ?_;rintro e v3 ⟨rfl,rfl⟩;go_wp2_with fail;go_roundw
        case rel=>exact ⟨2+1,r,by omega,rfl,by go_num,by first|rfl|trivial,by have q:r=kvL [b1,b2]:=HQ.out;show r=kvL [b1,b2,false];rw [q];exact (no_kv2 b1 b2).symm⟩
        case measure=>simp [intOf]
       | true=>
        have D:=C2;have ix:=has_ix2 (w.heap.size+1);rw [hh] at D;go_wp2_with fail;refine D.out.mono ?_;rintro e v3 ⟨rfl,rfl⟩;go_wp2_with fail;refine (w_bitn2 _).mono ?_;rintro e v4 ⟨rfl,rfl⟩;go_wp2_with fail;refine ⟨⟨2+1,bits .or .u8 r 4,by omega,rfl,by go_num,by first|rfl|trivial,?_⟩,by simp [intOf]⟩;have q:r=kvL [b1,b2]:=HQ.out;show bits .or .u8 r 4=kvL [b1,b2,true];rw [q];exact or_kv2 b1 b2
     · skip
       cases hh:h3 with
       | false=>
        have D:=C3;have ix:=has_ix3 (w.heap.size+1);rw [hh] at D;go_wp2_with fail;refine D.out.mono ?_;rintro e v3 ⟨rfl,rfl⟩;go_wp2_with fail;go_roundw
        case rel=>exact ⟨3+1,r,by omega,rfl,by go_num,by first|rfl|trivial,by have q:r=kvL [b1,b2,b3]:=HQ.out;show r=kvL [b1,b2,b3,false];rw [q];exact (no_kv3 b1 b2 b3).symm⟩
        case measure=>simp [intOf]
       | true=>
        have D:=C3;have ix:=has_ix3 (w.heap.size+1);rw [hh] at D;go_wp2_with fail;refine D.out.mono ?_;rintro e v3 ⟨rfl,rfl⟩;go_wp2_with fail;refine (w_bitn3 _).mono ?_;rintro e v4 ⟨rfl,rfl⟩;go_wp2_with fail;refine ⟨⟨3+1,bits .or .u8 r 8,by omega,rfl,by go_num,by first|rfl|trivial,?_⟩,by simp [intOf]⟩;have q:r=kvL [b1,b2,b3]:=HQ.out;show bits .or .u8 r 8=kvL [b1,b2,b3,true];rw [q];exact or_kv3 b1 b2 b3
     · skip
       cases hh:h4 with
       | false=>
        have D:=C4;have ix:=has_ix4 (w.heap.size+1);rw [hh] at D;go_wp2_with fail;refine D.out.mono ?_;rintro e v3 ⟨rfl,rfl⟩;go_wp2_with fail;go_roundw
        case rel=>exact ⟨4+1,r,by omega,rfl,by go_num,by first|rfl|trivial,by have q:r=kvL [b1,b2,b3,h3]:=HQ.out;show r=kvL [b1,b2,b3,h3,false];rw [q];exact (no_kv4 b1 b2 b3 h3).symm⟩
        case measure=>simp [intOf]
       | true=>
        have D:=C4;have ix:=has_ix4 (w.heap.size+1);rw [hh] at D;go_wp2_with fail;refine D.out.mono ?_;rintro e v3 ⟨rfl,rfl⟩;go_wp2_with fail;refine (w_bitn4 _).mono ?_;rintro e v4 ⟨rfl,rfl⟩;go_wp2_with fail;refine ⟨⟨4+1,bits .or .u8 r 16,by omega,rfl,by go_num,by first|rfl|trivial,?_⟩,by simp [intOf]⟩;have q:r=kvL [b1,b2,b3,h3]:=HQ.out;show bits .or .u8 r 16=kvL [b1,b2,b3,h3,true];rw [q];exact or_kv4 b1 b2 b3 h3
     · skip
       cases hh:h5 with
       | false=>
        have D:=C5;have ix:=has_ix5 (w.heap.size+1);rw [hh] at D;go_wp2_with fail;refine D.out.mono ?_;rintro e v3 ⟨rfl,rfl⟩;go_wp2_with fail;go_roundw
        case rel=>exact ⟨5+1,r,by omega,rfl,by go_num,by first|rfl|trivial,by have q:r=kvL [b1,b2,b3,h3,h4]:=HQ.out;show r=kvL [b1,b2,b3,h3,h4,false];rw [q];exact (no_kv5 b1 b2 b3 h3 h4).symm⟩
        case measure=>simp [intOf]
       | true=>
        have D:=C5;have ix:=has_ix5 (w.heap.size+1);rw [hh] at D;go_wp2_with fail;refine D.out.mono ?_;rintro e v3 ⟨rfl,rfl⟩;go_wp2_with fail;refine (w_bitn5 _).mono ?_;rintro e v4 ⟨rfl,rfl⟩;go_wp2_with fail;refine ⟨⟨5+1,bits .or .u8 r 32,by omega,rfl,by go_num,by first|rfl|trivial,?_⟩,by simp [intOf]⟩;have q:r=kvL [b1,b2,b3,h3,h4]:=HQ.out;show bits .or .u8 r 32=kvL [b1,b2,b3,h3,h4,true];rw [q];exact or_kv5 b1 b2 b3 h3 h4
     · skip
       cases hh:h6 with
       | false=>
        have D:=C6;have ix:=has_ix6 (w.heap.size+1);rw [hh] at D;go_wp2_with fail;refine D.out.mono ?_;rintro e v3 ⟨rfl,rfl⟩;go_wp2_with fail;go_roundw
        case rel=>exact ⟨6+1,r,by omega,rfl,by go_num,by first|rfl|trivial,by have q:r=kvL [b1,b2,b3,h3,h4,h5]:=HQ.out;show r=kvL [b1,b2,b3,h3,h4,h5,false];rw [q];exact (no_kv6 b1 b2 b3 h3 h4 h5).symm⟩
        case measure=>simp [intOf]
       | true=>
        have D:=C6;have ix:=has_ix6 (w.heap.size+1);rw [hh] at D;go_wp2_with fail;refine D.out.mono ?_;rintro e v3 ⟨rfl,rfl⟩;go_wp2_with fail;refine (w_bitn6 _).mono ?_;rintro e v4 ⟨rfl,rfl⟩;go_wp2_with fail;refine ⟨⟨6+1,bits .or .u8 r 64,by omega,rfl,by go_num,by first|rfl|trivial,?_⟩,by simp [intOf]⟩;have q:r=kvL [b1,b2,b3,h3,h4,h5]:=HQ.out;show bits .or .u8 r 64=kvL [b1,b2,b3,h3,h4,h5,true];rw [q];exact or_kv6 b1 b2 b3 h3 h4 h5
   · have hk7:k=7:=by omega
     subst hk7;go_wp2_with fail;go_ret;have q:r=kvL [b1,b2,b3,h3,h4,h5,h6]:=HQ.out;exact ⟨by rw [HG.out,q];rfl,HB2.out⟩
theorem w_sKinds (h:Nat) (T:TT) (v:Value) (w:World) (hI:InT w h T v):Calls Tryz.prog 113 #[v] w fun e w'=>e= .returned (.int .u8 (kdN T))∧Below w.heap.size w w':=by
 cases h with
 | zero=>exact hI.elim
 | succ h=>
  obtain ⟨no,nc,xo,xc,ao,ac,oo,oc,rfl,_,⟨a5,a6,a7,a8⟩,_⟩:=hI;exact w_KindsX T.all T.nul T.fls T.tru no _ nc T.any xo _ xc ao _ ac oo _ oc w a5 a6 a7 a8
end Go.Proofs.YtnokkmiaeacogaaGreat
namespace Go.Proofs.YtnokkmiaeacogaaGreat
set_option maxRecDepth 100000
set_option maxHeartbeats 12800000
def laOk (a:AR):Bool:= !(decide (a.min<0)|| !(decide (a.max= -1)||decide (a.min≤a.max))||(a.item.never != decide (a.max=0)))
def loOk (o:OB):Bool:=decide (o.fields.length=o.names.length)&&(decide (o.must.length=o.names.length)&&((rK o.names o.names.length&&oK o.names o.names.length)&&(o.fields.zip o.must).all fun p=> !(p.2&&p.1.never)))
def locT (T:TT):Bool:= !(T.all&& !T.bare)&&(spB T.nums&&(((rK T.texts T.texts.length&&oK T.texts T.texts.length)&& !(T.any&&decide (0<T.texts.length)))&&((T.arrs.all laOk&&decide (T.arrs.length≤1))&&T.objs.all loOk)))
theorem la_eq (f:TT→Bool) (a:AR):arOk f a=(laOk a&&f a.item):=by
 unfold arOk laOk
 cases f a.item with
 | false=>simp
 | true=>
  rw [Bool.eq_iff_iff]
  cases a.item.never <;> simp only [Bool.and_true,Bool.true_and,Bool.and_eq_true,Bool.not_eq_true',Bool.or_eq_false_iff,Bool.and_eq_false_iff,Bool.not_eq_false',Bool.or_eq_true,decide_eq_true_eq,decide_eq_false_iff_not,beq_iff_eq,bne_eq_false_iff_eq,Bool.false_eq,Bool.true_eq] <;> omega
theorem arB_eq (f:TT→Bool) (l:List AR):arB f l=((l.all laOk&&decide (l.length≤1))&&(l.map AR.item).all f):=by
 match l with
 | []=>rfl
 | [a]=>show arOk f a=_;rw [la_eq];simp
 | a::b::r=>simp [arB]
theorem zip_all (f:TT→Bool):∀ (fs:List TT) (ms:List Bool),fs.length=ms.length→((fs.zip ms).all fun p=>fdOk f p.1 p.2)=(fs.all f&&(fs.zip ms).all fun p=> !(p.2&&p.1.never))
 | [],[],_=>rfl
 | t::fs,m::ms,h=>by
  have ih:=zip_all f fs ms (by simpa using h);simp only [List.zip_cons_cons,List.all_cons,ih];unfold fdOk
  cases f t <;> cases (fs.all f) <;> simp
 | [],_::_,h=>by simp at h
 | _::_,[],h=>by simp at h
theorem obOk_eq (f:TT→Bool) (o:OB):obOk f o=(loOk o&&(o.fields++[o.rest]).all f):=by
 unfold obOk loOk;by_cases h1:o.fields.length=o.names.length
 · by_cases h2:o.must.length=o.names.length
   · rw [zip_all f o.fields o.must (h1.trans h2.symm),decide_eq_true h1,decide_eq_true h2,decide_eq_true h1.symm,decide_eq_true h2.symm];simp only [Bool.true_and,List.all_append,List.all_cons,List.all_nil,Bool.and_true]
     cases (rK o.names o.names.length&&oK o.names o.names.length) <;> cases f o.rest <;> cases (o.fields.all f) <;> simp
   · rw [decide_eq_false h2,decide_eq_false (p:=o.names.length=o.must.length) (fun h=>h2 h.symm)];simp
 · rw [decide_eq_false h1,decide_eq_false (p:=o.names.length=o.fields.length) (fun h=>h1 h.symm)];simp
theorem objs_eq (f:TT→Bool):∀ (l:List OB),l.all (obOk f)=(l.all loOk&&(l.flatMap fun o=>o.fields++[o.rest]).all f)
 | []=>rfl
 | o::r=>by
  rw [List.all_cons,objs_eq f r,obOk_eq,List.all_cons,List.flatMap_cons,List.all_append]
  cases loOk o <;> cases (r.all loOk) <;> simp [Bool.and_assoc]
theorem fm_split (h:Nat) (T:TT):fmN (h+1) T=(locT T&&(insT T).all (fmN h)):=by
 show (!(T.all&& !T.bare)&&((rK T.texts T.texts.length&&oK T.texts T.texts.length)&&(!(T.any&&decide (0<T.texts.length))&&(spB T.nums&&(arB (fmN h) T.arrs&&T.objs.all (obOk (fmN h)))))))=_;rw [arB_eq,objs_eq];unfold locT insT;rw [List.all_append]
 cases (!(T.all&& !T.bare)) <;> cases (rK T.texts T.texts.length&&oK T.texts T.texts.length) <;> cases (!(T.any&&decide (0<T.texts.length))) <;> cases (spB T.nums) <;> cases (T.arrs.all laOk&&decide (T.arrs.length≤1)) <;> cases (T.objs.all loOk) <;> cases ((T.arrs.map AR.item).all (fmN h)) <;> simp
end Go.Proofs.YtnokkmiaeacogaaGreat
