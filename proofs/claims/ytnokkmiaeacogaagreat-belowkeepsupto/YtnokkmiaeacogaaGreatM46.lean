import Derived.Test.YtnokkmiaeacogaaGreatM45
import Derived.Test.YtnokkmiaeacogaaGreatM37
set_option linter.unusedVariables false
namespace Go.Proofs.YtnokkmiaeacogaaGreat
open Go.RowKit Go.Shelf Go.Sort
theorem w_BelowKeeps (h:Nat) (A B:TT) (va vb:Value) (w:World) (hA:InT w h A va) (hB:InT w h B vb) (tA:tpN h A≤1048576) (tB:tpN h B≤1048576):
 Calls Tryz.prog 3 #[va,vb] w fun e w'=>e= .returned (.bool true)∧Below w.heap.size w w':=by
 cases h with
 | zero=>exact hA.elim
 | succ h=>
  have hA':=hA;have hB':=hB;obtain ⟨no1,nc1,xo1,xc1,ao1,ac1,oo1,oc1,rfl,_⟩:=hA';obtain ⟨no2,nc2,xo2,xc2,ao2,ac2,oo2,oc2,rfl,_⟩:=hB';have fm:∀ {T:TT},(decide (tpN (h+1) T≤20000)&&fmN (h+1) T)=true→fmN (h+1) T=true:=fun e=>by rw [Bool.and_eq_true] at e;exact e.2
  have H0:=hQz (fun u=>w_lives12 u)
  cases e1:(decide (tpN (h+1) A≤20000)&&fmN (h+1) A) with
  | false=>exact keeps_f h A B w _ _ _ _ _ _ _ _ _ _ _ _ _ _ _ _ hA hB tA tB H0 (hQz fun u hu=>by have hx:=q0v (h+1) A _ u (hA.keep hu) tA;rw [e1] at hx;exact hx) (hQz fun u hu=>q0v (h+1) B _ u (hB.keep hu) tB)
  | true=>
   cases e2:(decide (tpN (h+1) B≤20000)&&fmN (h+1) B) with
   | false=>exact keeps_tf h A B w _ _ _ _ _ _ _ _ _ _ _ _ _ _ _ _ hA hB tA tB H0 (hQz fun u hu=>by have hx:=q0v (h+1) A _ u (hA.keep hu) tA;rw [e1] at hx;exact hx) (hQz fun u hu=>by have hx:=q0v (h+1) B _ u (hB.keep hu) tB;rw [e2] at hx;exact hx)
   | true=>exact keeps_tt h A B w _ _ _ _ _ _ _ _ _ _ _ _ _ _ _ _ hA hB tA tB H0 (hQz fun u hu=>by have hx:=q0v (h+1) A _ u (hA.keep hu) tA;rw [e1] at hx;exact hx) (hQz fun u hu=>by have hx:=q0v (h+1) B _ u (hB.keep hu) tB;rw [e2] at hx;exact hx) (fm e1) (fm e2)
end Go.Proofs.YtnokkmiaeacogaaGreat
