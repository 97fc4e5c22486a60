/- What is proved here: what the judging of a message answers, in the program, for every lists of at most 1048576 elements. -/
import Derived.Test.YtljkcijakdhdiaaMsFn
import Derived.Deep.RegionHeld3
namespace Go.Proofs.Ytljkcijakdhdiaa
open Go.RowKit Go.Sort
set_option linter.unusedVariables false

end Go.Proofs.Ytljkcijakdhdiaa
