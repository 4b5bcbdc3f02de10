import Derived.Test.YtoidodippmgbpaaM47
import Derived.Test.YtoidodippmgbpaaM48
import Derived.Test.YtoidodippmgbpaaM32
import Derived.Deep.RegionHeld3
import Derived.Deep.RegionWith
namespace Go.Proofs.Ytoidodippmgbpaa
open Go.RowKit
set_option linter.unusedVariables false
set_option linter.unusedSimpArgs false
end Go.Proofs.Ytoidodippmgbpaa
