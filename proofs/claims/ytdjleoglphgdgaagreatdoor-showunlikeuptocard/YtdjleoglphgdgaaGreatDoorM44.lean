import Derived.Test.YtdjleoglphgdgaaGreatDoorM42
import Derived.Test.YtdjleoglphgdgaaGreatDoorM43
namespace Go.Proofs.YtdjleoglphgdgaaGreatDoor
open Go.RowKit Go.Shelf Go.Sort
set_option linter.unusedVariables false
set_option linter.unusedSimpArgs false
attribute [local go_sem] Oper.semAt_some

theorem w_rFormedN : ∀ h, FrOk h
  | 0 => fun _ _ _ hA => hA.elim
  | h + 1 => by
    rintro ⟨aop, aat, atx, aV, aN, aI⟩ va w hA
    have ih := w_rFormedN h
    by_cases h2 : aop = 2
    · subst h2; exact fr_c2 h ih _ _ _ _ _ _ w hA
    by_cases h3 : aop = 3
    · subst h3; exact fr_c3 h ih _ _ _ _ _ _ w hA
    by_cases h5 : aop = 5
    · subst h5; exact fr_c5 h ih _ _ _ _ _ _ w hA
    by_cases h33 : aop = 33
    · subst h33; exact fr_c33 h ih _ _ _ _ _ _ w hA
    exact fr_rest h ih _ _ _ _ _ _ _ w hA h2 h3 h5 h33
end Go.Proofs.YtdjleoglphgdgaaGreatDoor
