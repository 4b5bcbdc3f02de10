import Derived.Test.YtdjleoglphgdgaaGreatDoorM30
set_option linter.unusedVariables false
set_option linter.unusedSimpArgs false
namespace Go.Proofs.YtdjleoglphgdgaaGreatDoor
open Go.RowKit Go.Shelf
section
variable {ws:List Tok} {nb:Nat} {P:PM NT} {O:Nat→PM NT}
theorem q1x {α:Type} (s:List UInt8) (a: α):Mv ws.length 0 (q07 (q0Q ws nb s) fun _=>pOk a):=q0t (q0b (q0u _) (j:=0) (k:=1) (fun _=>q19 _) (by omega)) (by omega)
theorem mv_bracket (hP:Mv ws.length 0 P) (of:NT):Mv ws.length 1 (q1C ws nb P of):=
 q0b (q0I _) (j:=0) (fun x t ht o a t' o' e=>by
  by_cases h1:syP ws t [93]=true
  · simp only [if_pos h1] at e;exact q1x _ _ t ht o a t' o' e
  · simp only [if_neg h1] at e;by_cases h2:syP ws t [58]=true
    · simp only [if_pos h2] at e;have:=q0P (q17 (q0V h2)) (j:=0) (k:=1) (fun _=>q0b hP (j:=0) (k:=0) (fun n=>q1x _ _) (by omega)) (by omega) o a t' o' e;omega
    · simp only [if_neg h2] at e;refine q0b hP (j:=0) (k:=0) (fun m t ht o a t' o' e=> ?_) (by omega) t ht o a t' o' e;by_cases h3:syP ws t [93]=true
      · simp only [if_pos h3] at e;exact q1x _ _ t ht o a t' o' e
      · simp only [if_neg h3] at e
        have:=q0b (q0B _) (j:=0) (k:=1) (fun _ t ht o a t' o' e=>by
         by_cases h4:syP ws t [93]=true
         · simp only [if_pos h4] at e;exact q1x _ _ t ht o a t' o' e
         · simp only [if_neg h4] at e;exact q0b hP (j:=0) (k:=0) (fun n=>q1x _ _) (by omega) t ht o a t' o' e) (by omega) t ht o a t' o' e
        omega) (by omega)
theorem q1c (hP:Mv ws.length 0 P) (a:NT):Mv ws.length 0 (q0F ws nb P a):=q1z (fun a t o r t' o' ht e=>by
 by_cases h1:isP ws 4 t=true
 · simp only [if_pos h1] at e;exact q0j e (k:=0) (by omega) (is_lt (by decide) h1)
 · simp only [if_neg h1] at e;by_cases h2:syP ws t [46]=true
   · simp only [if_pos h2] at e;have:=q0P (q17 (q0V h2)) (j:=0) (k:=1) (fun x=>q0t (q0b (mv_text hP) (j:=0) (k:=1) (fun k=>q19 _) (by omega)) (by omega)) (by omega) o r t' o' e;omega
   · simp only [if_neg h2] at e;by_cases h3:syP ws t [91]=true
     · simp only [if_pos h3] at e;have:=q0b (mv_bracket hP a) (j:=0) (k:=1) (fun n=>q19 _) (by omega) t ht o r t' o' e;omega
     · simp only [if_neg h3] at e;by_cases h4:syP ws t [63]=true
       · simp only [if_pos h4] at e;exact q0j e (k:=0) (by omega) (q0V h4)
       · simp only [if_neg h4] at e;exact q0j e (k:=0) (by omega) ht) _ _
theorem q1V (hP:Mv ws.length 0 P) (A:NT):Mv ws.length 0 (q0n ws nb P A):=by
 unfold q0n
 split
 · exact q0t (q0b (q0B _) (j:=0) (k:=1) (fun _=>q0t (q0b (mv_be (by decide)) (j:=0) (k:=1) (fun x=>q0t (q0b (mv_pipes hP _ _ _) (j:=0) (k:=1) (fun ks=>q19 _) (by omega)) (by omega)) (by omega)) (by omega)) (by omega)) (by omega)
 · exact q19 A
theorem mv_unwind (hP:Mv ws.length 0 P):∀ (l:List NT) (out:NT),Mv ws.length 0 (q0W ws nb P l out)
 | [],out=>q19 _
 | last::rest,out=>fun t ht o a t' o' e=>by
  unfold q0W at e;simp only at e
  split at e
  · rename_i h
    exact q0j e (by omega) (q0V h.2.2)
  · exact q0b (q1V hP _) (j:=0) (k:=0) (fun B=>q0b (q1c hP B) (j:=0) (k:=0) (fun C=>mv_unwind hP rest C) (by omega)) (by omega) t ht o a t' o' e
theorem await_lt {t:Nat} {A:NT} (h:q1h ws t=some A):t<ws.length:=by
 unfold q1h at h;simp only at h
 split at h
 · rename_i h1;exact q0V h1
 · split at h
   · rename_i h1;exact q0V h1
   · split at h
     · rename_i h1;exact q0V h1
     · cases h
theorem mv_post1 (hP:Mv ws.length 0 P) (hO:∀ l,1≤l→Mv ws.length 0 (O l)) (a:List NT):Mv ws.length 1 (q07 (lpP (fun (b:List NT) t o=>match q1h ws t with
 | some A=> .ok (.inl (A::b)) (t+1) o
 | none=> .ok (.inr b) t o) (ws.length+1) a) fun b=>q07 (termP ws nb P O) fun n=>q07 (q0F ws nb P n) fun m=>q0W ws nb P b m):=
 q0b (i:=0) (j:=1) (q1z (fun b t o r t' o' ht e=>by
  cases h:q1h ws t with
  | some A=>
   simp only [h] at e;exact q0j e (k:=0) (by omega) (await_lt h)
  | none=>
   simp only [h] at e;exact q0j e (k:=0) (by omega) ht) _ _) (fun b=>q0b (mv_term hP hO) (j:=0) (fun n=>q0b (q1c hP n) (j:=0) (fun m=>mv_unwind hP b m) (by omega)) (by omega)) (by omega)
theorem mv_loop1 {α β:Type} {L:Nat} {body: α→PM (α ⊕ β)} (hb:∀ a,Mv L 1 (body a)) (f:Nat) (a: α):Mv L 1 (lpP body f a):=by
 cases f with
 | zero=>exact fun t ht o b t' o' e=>by cases e
 | succ f=>
  refine q0b (hb a) (j:=0) (fun r=> ?_) (by omega)
  cases r with
  | inl a'=>exact q1z (fun a t o r t' o' ht e=>by have:=hb a t ht o r t' o' e;omega) f a'
  | inr b=>exact q19 b
theorem mv_post (hP:Mv ws.length 0 P) (hO:∀ l,1≤l→Mv ws.length 0 (O l)):Mv ws.length 1 (postP ws nb P O):=mv_loop1 (fun a=>mv_post1 hP hO a) _ _
theorem mv_unary (hP:Mv ws.length 0 P) (hO:∀ l,1≤l→Mv ws.length 0 (O l)):Mv ws.length 1 (q2m ws nb P O):=
 q0b (i:=0) (j:=1) (q1z (fun a t o r t' o' ht e=>by
  by_cases h:syP ws t [45]=true
  · simp only [if_pos h] at e;exact q0j e (k:=0) (by omega) (q0V h)
  · simp only [if_neg h] at e;exact q0j e (k:=0) (by omega) ht) _ _) (fun ss=>q0b (mv_post hP hO) (j:=0) (fun n=>q19 _) (by omega)) (by omega)
theorem op_lt {t:Nat} (h:(opZ ws t).2.2.1≠0):t<ws.length:=by
 by_cases hl:t<ws.length
 · exact hl
 · unfold opZ at h;rw [hr_none (by omega)] at h;simp at h
theorem mv_behind (hO:∀ l,1≤l→Mv ws.length 0 (O l)) (least:Nat) (hl:1≤least) (left:NT):Mv ws.length 0 (q1R ws O least left):=q1z (fun a t o r t' o' ht e=>by
 simp only at e;by_cases h:(opZ ws t).2.2.1<least∨a.2.2<(opZ ws t).2.2.1
 · rw [if_pos h] at e;exact q0j e (k:=0) (by omega) ht
 · rw [if_neg h] at e;have h1:=op_lt (ws:=ws) (t:=t) (by omega);have:=q0b (hO _ (by omega)) (j:=0) (k:=0) (fun n=>by split <;> exact q19 _) (by omega) (t+1) (by omega) o r t' o' e;omega) _ _
theorem mv_operand (hP:Mv ws.length 0 P) (hO:∀ l,1≤l→Mv ws.length 0 (O l)) (least:Nat) (hl:1≤least):Mv ws.length 1 (q2e ws nb P O least):=
 q0b (mv_unary hP hO) (j:=0) (fun n=>mv_behind hO least hl n) (by omega)
theorem mv_param:Mv ws.length 1 (q1H ws nb):=fun t ht o a t' o' e=>by
 unfold q1H at e;by_cases h:isP ws 3 t=true
 · rw [if_pos h] at e;exact q0j e (by omega) (is_lt (by decide) h)
 · rw [if_neg h] at e;exact q0b (mv_be (by decide)) (j:=0) (k:=1) (fun x=>q19 _) (by omega) t ht o a t' o' e
theorem mv_params:Mv ws.length 0 (q25 ws nb):=fun t ht o a t' o' e=>by
 unfold q25 at e;by_cases h:syP ws t [40]=true
 · rw [if_pos h] at e
   have:=q0b (q0I [40]) (j:=0) (k:=1) (fun _=>q0t (q0b mv_param (j:=0) (k:=1) (fun a=>q0b (i:=0) (j:=0) (k:=0) (q1z (fun l t o r t' o' ht e=>by
    by_cases h:syP ws t [59]=true
    · simp only [if_pos h] at e;have:=q0P (q17 (q0V h)) (j:=0) (k:=1) (fun _=>q0t (q0b mv_param (j:=0) (k:=1) (fun b=>q19 _) (by omega)) (by omega)) (by omega) o r t' o' e;omega
    · simp only [if_neg h] at e;exact q0j e (k:=0) (by omega) ht) _ _) (fun l=>q1x _ _) (by omega)) (by omega)) (by omega)) (by omega) t ht o a t' o' e
   omega
 · rw [if_neg h] at e;exact q0j e (by omega) ht
theorem mv_link (hP:Mv ws.length 0 P) (hO:∀ l,1≤l→Mv ws.length 0 (O l)):Mv ws.length 1 (linkP ws nb P O):=fun t ht o a t' o' e=>by
 unfold linkP at e;by_cases h1:syP ws t [100,101,102]=true
 · rw [if_pos h1] at e;exact q0b (q0I _) (j:=0) (k:=1) (fun x=>q0t (q0b (mv_be (by decide)) (j:=0) (k:=1) (fun y=>q0b mv_params (j:=0) (k:=0) (fun l=>q0t (q0b (q0B _) (j:=0) (k:=1) (fun _=>q0b hP (j:=0) (k:=0) (fun n=>q1x _ _) (by omega)) (by omega)) (by omega)) (by omega)) (by omega)) (by omega)) (by omega) t ht o a t' o' e
 · rw [if_neg h1] at e;by_cases h2:syP ws t [108,97,98,101,108]=true
   · rw [if_pos h2] at e;exact q0P (q17 (q0V h2)) (j:=0) (k:=1) (fun x=>q0t (q0b (mv_be (by decide)) (j:=0) (k:=1) (fun y=>q0t (q0b (q0B _) (j:=0) (k:=1) (fun _=>q19 _) (by omega)) (by omega)) (by omega)) (by omega)) (by omega) o a t' o' e
   · rw [if_neg h2] at e;refine q0b (mv_unary hP hO) (j:=0) (k:=1) (fun n t1 ht1 o1 a t' o' e=> ?_) (by omega) t ht o a t' o' e;by_cases h3:syP ws t [45]=false∧syP ws t1 [97,115]=true
     · simp only [if_pos h3] at e;have:=q0P (q17 (q0V h3.2)) (j:=0) (k:=1) (fun x=>q0t (q0b (mv_be (by decide)) (j:=0) (k:=1) (fun y=>q0t (q0b (q0B _) (j:=0) (k:=1) (fun _=>q19 _) (by omega)) (by omega)) (by omega)) (by omega)) (by omega) o1 a t' o' e;omega
     · simp only [if_neg h3] at e;refine q0b (mv_behind hO 1 (by omega) n) (j:=0) (k:=0) (fun m t2 ht2 o2 a t' o' e=> ?_) (by omega) t1 ht1 o1 a t' o' e;by_cases h4:syP ws t2 [124]=true
       · simp only [if_pos h4] at e;exact q0j e (by omega) (q0V h4)
       · simp only [if_neg h4] at e;exact q0j e (by omega) ht2
theorem mv_pipe (hP:Mv ws.length 0 P) (hO:∀ l,1≤l→Mv ws.length 0 (O l)):Mv ws.length 1 (pipeP ws nb P O):=mv_loop1 (fun a=>q0b (mv_link hP hO) (j:=0) (fun r=>by split <;> exact q19 _) (by omega)) _ _
theorem mv_po:∀ n,Mv ws.length 1 (poP ws nb n).1∧∀ l,1≤l→Mv ws.length 1 ((poP ws nb n).2 l)
 | 0=>⟨fun t ht o a t' o' e=>(by cases e),fun l hl t ht o a t' o' e=>(by cases e)⟩
 | n+1=>by
  have h:=mv_po n;have hP:=q0t h.1 (j:=0) (by omega);have hO:∀ l,1≤l→Mv ws.length 0 ((poP ws nb n).2 l):=fun l hl=>q0t (h.2 l hl) (by omega);exact ⟨mv_pipe hP hO,fun l hl=>mv_operand hP hO l hl⟩
end
def Bl {α:Type} (x:PM α):Prop:=∀ t o a t' o',o≤64→x t o= .ok a t' o'→o'=o
def Up {α:Type} (x:PM α):Prop:=∀ t o a t' o',o≤64→x t o= .ok a t' o'→o'=o+1∧o'≤64
def Dn {α:Type} (x:PM α):Prop:=∀ t o a t' o',1≤o→o≤64→x t o= .ok a t' o'→o'=o-1
theorem q2w {α:Type} {a b: α} {n t' o o':Nat} (e:(.ok a n o:Pr α)= .ok b t' o'):o'=o:=by
 injection e with h1 h2 h3;exact h3.symm
theorem q0S {α:Type} (a: α):Bl (pOk a):=fun t o b t' o' _ h=>q2w h
theorem then_ok {α β:Type} {x:PM α} {f: α→PM β} {t o:Nat} {b: β} {t' o':Nat} (e:q07 x f t o= .ok b t' o'):∃ a t1 o1,x t o= .ok a t1 o1∧f a t1 o1= .ok b t' o':=by
 unfold q07 at e
 cases hx:x t o with
 | bad e1 q=>rw [hx] at e;cases e
 | ok a t1 o1=>rw [hx] at e;exact ⟨a,t1,o1,rfl,e⟩
theorem q0e {α β:Type} {x:PM α} {f: α→PM β} (hx:Bl x) (hf:∀ a,Bl (f a)):Bl (q07 x f):=fun t o b t' o' ho e=>by
 obtain ⟨a,t1,o1,h1,h2⟩:=then_ok e;have e1:=hx _ _ _ _ _ ho h1;have:=hf a _ _ _ _ _ (by omega) h2;omega
theorem q1P {α β:Type} {x:PM α} {f: α→PM β} (hx:Up x) (hf:∀ a,Dn (f a)):Bl (q07 x f):=fun t o b t' o' ho e=>by
 obtain ⟨a,t1,o1,h1,h2⟩:=then_ok e;have e1:=hx _ _ _ _ _ ho h1;have:=hf a _ _ _ _ _ (by omega) (by omega) h2;omega
theorem q0D {α β:Type} {x:PM α} {f: α→PM β} (hx:Bl x) (hf:∀ a,Dn (f a)):Dn (q07 x f):=fun t o b t' o' ho ho2 e=>by
 obtain ⟨a,t1,o1,h1,h2⟩:=then_ok e;have e1:=hx _ _ _ _ _ ho2 h1;have:=hf a _ _ _ _ _ (by omega) (by omega) h2;omega
theorem dn_end {α β:Type} {x:PM α} {f: α→PM β} (hx:Dn x) (hf:∀ a,Bl (f a)):Dn (q07 x f):=fun t o b t' o' ho ho2 e=>by
 obtain ⟨a,t1,o1,h1,h2⟩:=then_ok e;have e1:=hx _ _ _ _ _ ho ho2 h1;have:=hf a _ _ _ _ _ (by omega) h2;omega
theorem q1m {α β:Type} {body: α→PM (α ⊕ β)} (hb:∀ a,Bl (body a)):∀ (f:Nat) (a: α),Bl (lpP body f a)
 | 0,a=>fun t o b t' o' _ e=>by cases e
 | f+1,a=>q0e (hb a) (fun r=>by
  cases r with
  | inl a'=>exact q1m hb f a'
  | inr b=>exact q0S b)
theorem q12 {α:Type} {c:Nat→Nat→Prop} [∀ t o,Decidable (c t o)] {x y:PM α} (hx:Bl x) (hy:Bl y):Bl (fun t o=>if c t o then x t o else y t o):=fun t o a t' o' ho e=>by
 by_cases hc:c t o
 · simp only [if_pos hc] at e;exact hx _ _ _ _ _ ho e
 · simp only [if_neg hc] at e;exact hy _ _ _ _ _ ho e
theorem dn_ite {α:Type} {c:Nat→Nat→Prop} [∀ t o,Decidable (c t o)] {x y:PM α} (hx:Dn x) (hy:Dn y):Dn (fun t o=>if c t o then x t o else y t o):=fun t o a t' o' ho ho2 e=>by
 by_cases hc:c t o
 · simp only [if_pos hc] at e;exact hx _ _ _ _ _ ho ho2 e
 · simp only [if_neg hc] at e;exact hy _ _ _ _ _ ho ho2 e
section
variable {ws:List Tok} {nb:Nat}
theorem bl_ft {α:Type}:Bl (pFt ws nb:PM α):=fun t o a t' o' _ e=>by cases e
theorem q1b:Bl (q0K ws):=fun t o a t' o' _ e=>q2w e
theorem q0x (s:List UInt8):Bl (q1r ws nb s):=q12 (c:=fun t _=>syP ws t s=true) q1b bl_ft
theorem bl_be (k:Nat):Bl (pBe ws nb k):=q12 (c:=fun t _=>isP ws k t=true) q1b bl_ft
theorem up_open:Up (pOpen ws):=fun t o a t' o' ho e=>by
 unfold pOpen at e;by_cases h:o=64
 · rw [if_pos h] at e;cases e
 · rw [if_neg h] at e;injection e with h1 h2 h3;omega
theorem q0H (s:List UInt8):Up (q1n ws nb s):=fun t o a t' o' ho e=>by
 unfold q1n at e;by_cases h:syP ws t s=true
 · rw [if_pos h] at e;exact up_open _ _ _ _ _ ho e
 · rw [if_neg h] at e;cases e
theorem dn_leave (s:List UInt8):Dn (q0Q ws nb s):=q0D (q0x s) (fun _ t o a t' o' h1 h2 e=>by
 injection e with e1 e2 e3;exact e3.symm)
theorem q0U {α:Type} (s:List UInt8) (a: α):Dn (q07 (q0Q ws nb s) fun _=>pOk a):=dn_end (dn_leave s) (fun _=>q0S a)
variable {P:PM NT} {O:Nat→PM NT}
theorem bl_group (hP:Bl P):Bl (q29 ws nb P):=q1P (q0H _) (fun _=>q0D hP (fun n=>q0U _ _))
theorem bl_list (hP:Bl P):Bl (listP ws nb P):=q1P (q0H _) (fun x=>q0D (q12 (c:=fun t _=>syP ws t [93]=true) (q0S _) (q0e hP (fun n=>q0S _))) (fun ks=>q0U _ _))
theorem bl_text (hP:Bl P):Bl (q24 ws nb P):=
 q12 (c:=fun t _=>isP ws 6 t=true) (q0e q1b (fun x=>q0S _)) (q12 (c:=fun t _=>isP ws 7 t=true)
  (q1P up_open (fun x0=>q0D (q1m (fun a=>q0e hP (fun n=>q12 (c:=fun t _=>isP ws 8 t=true) (fun _ _ _ _ _ _ e=>q2w e) (q0S _))) _ _) (fun ks=>q0D (bl_be _) (fun x t o a t' o' h1 h2 e=>by
   injection e with e1 e2 e3;exact e3.symm)))) bl_ft)
theorem bl_pipes (hP:Bl P) (ks:List NT) (least most:Nat):Bl (q23 ws nb P ks least most):=
 q1P (q0H _) (fun _=>q0D hP (fun n=>q0D (q1m (fun (a:Nat × List NT)=>q12 (c:=fun _ _=>a.1<most) (q12 (c:=fun t _=>least≤a.1∧syP ws t [59]=false) (q0S _) (q0e (q0x _) (fun _=>q0e hP (fun k=>q0S _)))) (q0S _)) _ _) (fun ks=>q0U _ _)))
theorem bl_branch (hP:Bl P) (at_:Nat):Bl (q1S ws nb P at_):=q0e hP (fun c=>q0e (q0x _) (fun _=>q0e hP (fun n=>q0S _)))
theorem bl_choice (hP:Bl P):Bl (q1O ws nb P):=
 q1P (q0H _) (fun x=>q0D (bl_branch hP _) (fun b=>q0D (q1m (fun a=>q12 (c:=fun t _=>syP ws t [101,108,105,102]=true) (q0e q1b (fun y=>q0e (bl_branch hP _) (fun b=>q0S _))) (q0S _)) _ _) (fun bs=>q0D (q12 (c:=fun t _=>syP ws t [101,108,115,101]=true) (q0e q1b (fun _=>hP)) (fun _ _ _ _ _ _ e=>q2w e)) (fun n=>q0U _ _))))
theorem bl_entry (hP:Bl P) (hO:∀ l,Bl (O l)) (ks:List NT):Bl (q1v ws nb P O ks):=fun t o a t' o' ho e=>by
 unfold q1v at e;simp only at e
 split at e
 · split at e
   · exact q0e (q0x _) (fun _=>q0e (hO 3) (fun n=>q0S _)) _ _ _ _ _ ho e
   · exact q2w e
 · refine q0e (x:=if (hrP ws t).kind=7 then q24 ws nb P else q29 ws nb P) ?_ (fun k=>q0e (q0x _) (fun _=>q0e (hO 3) (fun n=>q0S _))) t o a t' o' ho e
   split
   · exact bl_text hP
   · exact bl_group hP
theorem bl_record (hP:Bl P) (hO:∀ l,Bl (O l)):Bl (q1T ws nb P O):=
 q1P (q0H _) (fun x=>q0D (q12 (c:=fun t _=>syP ws t [125]=true) (q0S _) (q0e (bl_entry hP hO []) (fun ks=>q1m (fun a=>q12 (c:=fun t _=>syP ws t [44]=true) (q0e q1b (fun _=>q0e (bl_entry hP hO a) (fun b=>q0S _))) (q0S _)) _ _))) (fun ks=>q0U _ _))
theorem bl_call (hP:Bl P):Bl (callP ws nb P):=q0e q1b (fun x=>q12 (c:=fun t _=>syP ws t [40]=true) (q0e (bl_pipes hP [] 1 9223372036854775807) (fun ks=>q0S _)) (q0S _))
theorem bl_term (hP:Bl P) (hO:∀ l,Bl (O l)):Bl (termP ws nb P O):=fun t o a t' o' ho e=>by
 unfold termP at e;simp only at e
 repeat' split at e
 all_goals first
  | exact q2w e
  | cases e
  | exact bl_group hP _ _ _ _ _ ho e
  | exact bl_list hP _ _ _ _ _ ho e
  | exact bl_record hP hO _ _ _ _ _ ho e
  | exact bl_choice hP _ _ _ _ _ ho e
  | exact bl_text hP _ _ _ _ _ ho e
  | exact bl_call hP _ _ _ _ _ ho e
  | exact q0e q1b (fun _=>q0e (bl_be _) (fun y=>q0S _)) _ _ _ _ _ ho e
  | exact q0e q1b (fun _=>q12 (c:=fun t _=>(isP ws 6 t||isP ws 7 t)=true) (q0e (bl_text hP) (fun k=>q0S _)) (q0S _)) _ _ _ _ _ ho e
theorem bl_bracket (hP:Bl P) (of:NT):Bl (q1C ws nb P of):=
 q1P (q0H _) (fun x=>dn_ite (c:=fun t _=>syP ws t [93]=true) (q0U _ _) (dn_ite (c:=fun t _=>syP ws t [58]=true) (q0D q1b (fun _=>q0D hP (fun n=>q0U _ _))) (q0D hP (fun m=>dn_ite (c:=fun t _=>syP ws t [93]=true) (q0U _ _) (q0D (q0x _) (fun _=>dn_ite (c:=fun t _=>syP ws t [93]=true) (q0U _ _) (q0D hP (fun n=>q0U _ _))))))))
theorem bl_suffixed (hP:Bl P) (a:NT):Bl (q0F ws nb P a):=by
 unfold q0F;exact q1m (fun a=>q12 (c:=fun t _=>isP ws 4 t=true) (fun _ _ _ _ _ _ e=>q2w e) (q12 (c:=fun t _=>syP ws t [46]=true) (q0e q1b (fun x=>q0e (bl_text hP) (fun k=>q0S _))) (q12 (c:=fun t _=>syP ws t [91]=true) (q0e (bl_bracket hP a) (fun n=>q0S _)) (q12 (c:=fun t _=>syP ws t [63]=true) (fun _ _ _ _ _ _ e=>q2w e) (q0S _))))) _ _
theorem bl_finished (hP:Bl P) (A:NT):Bl (q0n ws nb P A):=by
 unfold q0n
 split
 · exact q0e (q0x _) (fun _=>q0e (bl_be _) (fun x=>q0e (bl_pipes hP _ _ _) (fun ks=>q0S _)))
 · exact q0S A
theorem bl_unwind (hP:Bl P):∀ (l:List NT) (out:NT),Bl (q0W ws nb P l out)
 | [],out=>q0S _
 | last::rest,out=>fun t o a t' o' ho e=>by
  unfold q0W at e;simp only at e
  split at e
  · exact q2w e
  · exact q0e (bl_finished hP _) (fun B=>q0e (bl_suffixed hP B) (fun C=>bl_unwind hP rest C)) t o a t' o' ho e
theorem bl_post (hP:Bl P) (hO:∀ l,Bl (O l)):Bl (postP ws nb P O):=q1m (fun a=>q0e (q1m (fun b t o r t' o' ho e=>by
 cases h:q1h ws t with
 | some A=>simp only [h] at e;exact q2w e
 | none=>simp only [h] at e;exact q2w e) _ _) (fun b=>q0e (bl_term hP hO) (fun n=>q0e (bl_suffixed hP n) (fun m=>bl_unwind hP b m)))) _ _
theorem bl_unary (hP:Bl P) (hO:∀ l,Bl (O l)):Bl (q2m ws nb P O):=q0e (q1m (fun a=>q12 (c:=fun t _=>syP ws t [45]=true) (fun _ _ _ _ _ _ e=>q2w e) (q0S _)) _ _) (fun ss=>q0e (bl_post hP hO) (fun n=>q0S _))
theorem bl_behind (hO:∀ l,Bl (O l)) (least:Nat) (left:NT):Bl (q1R ws O least left):=q1m (fun a t o r t' o' ho e=>by
 simp only at e
 split at e
 · exact q2w e
 · exact q0e (hO _) (fun n=>by split <;> exact q0S _) _ _ _ _ _ ho e) _ _
theorem bl_operand (hP:Bl P) (hO:∀ l,Bl (O l)) (least:Nat):Bl (q2e ws nb P O least):=q0e (bl_unary hP hO) (fun n=>bl_behind hO least n)
theorem bl_param:Bl (q1H ws nb):=q12 (c:=fun t _=>isP ws 3 t=true) (fun _ _ _ _ _ _ e=>q2w e) (q0e (bl_be _) (fun x=>q0S _))
theorem bl_params:Bl (q25 ws nb):=q12 (c:=fun t _=>syP ws t [40]=true) (q1P (q0H _) (fun _=>q0D bl_param (fun a=>q0D (q1m (fun l=>q12 (c:=fun t _=>syP ws t [59]=true) (q0e q1b (fun _=>q0e bl_param (fun b=>q0S _))) (q0S _)) _ _) (fun l=>q0U _ _)))) (q0S _)
theorem bl_link (hP:Bl P) (hO:∀ l,Bl (O l)):Bl (linkP ws nb P O):=fun t o a t' o' ho e=>by
 unfold linkP at e
 split at e
 · exact q1P (q0H _) (fun x=>q0D (bl_be _) (fun y=>q0D bl_params (fun l=>q0D (q0x _) (fun _=>q0D hP (fun n=>q0U _ _))))) t o a t' o' ho e
 · split at e
   · exact q0e q1b (fun x=>q0e (bl_be _) (fun y=>q0e (q0x _) (fun _=>q0S _))) t o a t' o' ho e
   · refine q0e (bl_unary hP hO) (fun n t1 o1 a t' o' ho1 e=> ?_) t o a t' o' ho e
     split at e
     · exact q0e q1b (fun x=>q0e (bl_be _) (fun y=>q0e (q0x _) (fun _=>q0S _))) _ _ _ _ _ ho1 e
     · refine q0e (bl_behind hO 1 n) (fun m t2 o2 a t' o' ho2 e=> ?_) t1 o1 a t' o' ho1 e
       split at e <;> exact q2w e
theorem bl_pipe (hP:Bl P) (hO:∀ l,Bl (O l)):Bl (pipeP ws nb P O):=q1m (fun a=>q0e (bl_link hP hO) (fun r=>by split <;> exact q0S _)) _ _
theorem bl_po:∀ n,Bl (poP ws nb n).1∧∀ l,Bl ((poP ws nb n).2 l)
 | 0=>⟨fun t o a t' o' _ e=>(by cases e),fun l t o a t' o' _ e=>(by cases e)⟩
 | n+1=>⟨bl_pipe (bl_po n).1 (bl_po n).2,fun l=>bl_operand (bl_po n).1 (bl_po n).2 l⟩
end
noncomputable def sq {α:Type} (x y: α):Bool:= @decide (x=y) (Classical.propDecidable _)
theorem q2j {α:Type} {x y: α}:sq x y=true↔x=y:=by unfold sq;exact @decide_eq_true_iff (x=y) (Classical.propDecidable _)
theorem q2h {α:Type} {x y: α} (h:¬ x=y):sq x y=false:=by
 cases hb:sq x y with
 | false=>rfl
 | true=>exact absurd (q2j.1 hb) h
theorem sq_yes {α:Type} (x: α):sq x x=true:=q2j.2 rfl
mutual
def noA:NT→NT
 | .mk op _ tx v ns ks=> .mk op 0 tx v ns (noAs ks)
def noAs:List NT→List NT
 | []=>[]
 | k::ks=>noA k::noAs ks
end
theorem noAs_len:∀ ks:List NT,(noAs ks).length=ks.length
 | []=>rfl
 | k::ks=>by rw [noAs,List.length_cons,List.length_cons,noAs_len ks]
theorem noAs_len_eq {xs ys:List NT} (h:noAs xs=noAs ys):xs.length=ys.length:=by
 have:=congrArg List.length h;rwa [noAs_len,noAs_len] at this
theorem noA_eq {A B:NT}:noA A=noA B↔A.op=B.op∧A.text=B.text∧A.value=B.value∧A.names=B.names∧noAs A.kids=noAs B.kids:=by
 obtain ⟨a,b,c,d,e,f⟩:=A;obtain ⟨a',b',c',d',e',f'⟩:=B;rw [noA,noA];simp only [NT.mk.injEq,NT.op,NT.text,NT.value,NT.names,NT.kids,true_and]
end Go.Proofs.YtdjleoglphgdgaaGreatDoor
namespace Go.Proofs.YtdjleoglphgdgaaGreatDoor
open Go.RowKit Go.Shelf
attribute [local go_sem] Oper.semAt_some
structure ND where
 op:Int
 at_:Int
 vk:Int
 tx:ByteArray
 nu:ByteArray
 vt:ByteArray
 io:Option Addr
 yo:Option Addr
 no:Option Addr
 ko:Option Addr
 iN:Nat
 ic:Nat
 yN:Nat
 yc:Nat
 nN:Nat
 nc:Nat
 kN:Nat
 kc:Nat
def ND.v (d:ND):Value:= .agg #[.int .i64 d.op,.int .i64 d.at_,.string d.tx,.int .i64 d.vk,.string d.nu,.string d.vt,.slice d.io d.iN d.ic,.slice d.yo d.yN d.yc,.slice d.no d.nN d.nc,.slice d.ko d.kN d.kc]
structure St (w:World) (B:Nat) (so:Option Addr) (sc:Nat) (ws:List Tok) (nb t o:Nat) (W:World):Prop where
 bt:Bt B w W
 pat:PAt W B so sc ws nb t o
 lt:w.heap.size<W.heap.size
 res:W.heap[w.heap.size]? =some (.cells #[.int .i64 0,.int .i64 0,.string ⟨#[]⟩,.int .i64 0,.string ⟨#[]⟩,.string ⟨#[]⟩,.slice none 0 0,.slice none 0 0,.slice none 0 0,.slice none 0 0] 28 (0,0))
theorem St.new {w:World} {B:Nat} {so:Option Addr} {sc:Nat} {ws:List Tok} {nb t o:Nat} (h:PAt w B so sc ws nb t o):St w B so sc ws nb t o (w.alloc (.cells #[.int .i64 0,.int .i64 0,.string ⟨#[]⟩,.int .i64 0,.string ⟨#[]⟩,.string ⟨#[]⟩,.slice none 0 0,.slice none 0 0,.slice none 0 0,.slice none 0 0] 28)):=⟨(Bt.refl B w).alloc _,h.alloc _,by simp,heap_alloc_new w _⟩
theorem St.keep {w W W':World} {B:Nat} {so:Option Addr} {sc:Nat} {ws:List Tok} {nb t o:Nat} (h:St w B so sc ws nb t o W) (hb:Below W.heap.size W W'):St w B so sc ws nb t o W':=⟨h.bt.trans (Bt.of hb),h.pat.keep hb,Nat.lt_of_lt_of_le h.lt hb.size,(hb.block _ h.lt).trans h.res⟩
theorem St.step {w W W':World} {B:Nat} {so:Option Addr} {sc:Nat} {ws:List Tok} {nb t o:Nat} {t' o':Nat} (h:St w B so sc ws nb t o W) (hB:B<w.heap.size) (hb:Bt B W W') (hp:PAt W' B so sc ws nb t' o'):St w B so sc ws nb t' o' W':=⟨h.bt.trans hb,hp,Nat.lt_of_lt_of_le h.lt hb.size,(hb.block _ h.lt (by omega)).trans h.res⟩
theorem St.alloc {w W:World} {B:Nat} {so:Option Addr} {sc:Nat} {ws:List Tok} {nb t o:Nat} (h:St w B so sc ws nb t o W) (x:Obj):St w B so sc ws nb t o (W.alloc x):=h.keep ((Below.refl _ _).alloc (Nat.le_refl _) x)
theorem St.drew {w W:World} {B:Nat} {so:Option Addr} {sc:Nat} {ws:List Tok} {nb t o:Nat} (h:St w B so sc ws nb t o W):St w B so sc ws nb t o W.drew:=h.keep (Below.refl _ _).drew
theorem St.put {w W W':World} {B:Nat} {so:Option Addr} {sc:Nat} {ws:List Tok} {nb t o:Nat} {t0 o0:Nat} {x:Obj} (h:St w B so sc ws nb t o W) (h0:PAt w B so sc ws nb t0 o0) (hp:Put w.heap.size x W W'):Bt B w W'∧PAt W' B so sc ws nb t o:=by
 have hB:=h0.lt;have hb:Bt B w W':=hp.bt h.bt (Nat.le_refl _);exact ⟨hb,h0.stepT t o hb h.pat.le h.pat.open_ ((hp.rest B (by omega)).trans h.pat.box)⟩
end Go.Proofs.YtdjleoglphgdgaaGreatDoor
