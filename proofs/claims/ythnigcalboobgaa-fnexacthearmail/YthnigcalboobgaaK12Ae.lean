/- What is proved here: what the model's AddEvent answers. -/
import Derived.Test.YthnigcalboobgaaK12Ad
namespace Go.Proofs.Ythnigcalboobgaa
open Go.RowKit Go.Sort
set_option linter.unusedVariables false
set_option linter.unusedSimpArgs false
set_option maxRecDepth 100000

end Go.Proofs.Ythnigcalboobgaa
