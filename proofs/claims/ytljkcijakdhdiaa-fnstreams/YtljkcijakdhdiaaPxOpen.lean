/- What is proved here: how an argument that is a prefix comes in, and what the copying of a prefix answers. No condition. -/
import Derived.Test.YtljkcijakdhdiaaOpen
import Derived.Test.YtljkcijakdhdiaaPxFn
namespace Go.Proofs.Ytljkcijakdhdiaa
open Go.ChangeShapes Go.WideShapes Go.ChangeAt Go.RowKit

end Go.Proofs.Ytljkcijakdhdiaa
