import Derived.Test.YtbaknnpjbokilaaZT13
import Derived.Test.YtbaknnpjbokilaaZH6x
import Derived.Test.YtbaknnpjbokilaaM33
import Derived.Deep.RegionHeld3
import Derived.Deep.RegionWith
namespace Go.Proofs.Ytbaknnpjbokilaa
open Go.RowKit
set_option linter.unusedVariables false
set_option linter.unusedSimpArgs false
end Go.Proofs.Ytbaknnpjbokilaa
