import Derived.Test.YtkoednenjnnjoaaDoorM11
namespace Go.Proofs.YtkoednenjnnjoaaDoor
open Go.RowKit
set_option linter.unusedVariables false
set_option linter.unusedSimpArgs false
end Go.Proofs.YtkoednenjnnjoaaDoor
