/- What is proved here: how an argument that is a prefix comes in, and what the copying of a prefix answers. No condition. -/
import Derived.Test.YtfaenhhmbdmdhaaOpen
import Derived.Test.YtfaenhhmbdmdhaaPxFn
namespace Go.Proofs.Ytfaenhhmbdmdhaa
open Go.ChangeShapes Go.WideShapes Go.ChangeAt Go.RowKit

end Go.Proofs.Ytfaenhhmbdmdhaa
