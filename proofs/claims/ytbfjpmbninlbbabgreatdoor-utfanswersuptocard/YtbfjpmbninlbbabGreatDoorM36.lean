import Derived.Test.YtbfjpmbninlbbabGreatDoorM9
namespace Go.Proofs.YtbfjpmbninlbbabGreatDoor
open Go.RowKit
set_option linter.unusedVariables false
set_option linter.unusedSimpArgs false
end Go.Proofs.YtbfjpmbninlbbabGreatDoor
