import Derived.Test.YtdehejadiofomaaDoorM26
namespace Go.Proofs.YtdehejadiofomaaDoor
open Go.RowKit Go.Shelf
set_option linter.unusedVariables false
set_option linter.unusedSimpArgs false
end Go.Proofs.YtdehejadiofomaaDoor
