/- What is proved here: how an argument that is a prefix comes in, and what the copying of a prefix answers. No condition. -/
import Derived.Test.YtjampcfikfafkaaOpen
import Derived.Test.YtjampcfikfafkaaPxFn
namespace Go.Proofs.Ytjampcfikfafkaa
open Go.ChangeShapes Go.WideShapes Go.ChangeAt Go.RowKit

end Go.Proofs.Ytjampcfikfafkaa
