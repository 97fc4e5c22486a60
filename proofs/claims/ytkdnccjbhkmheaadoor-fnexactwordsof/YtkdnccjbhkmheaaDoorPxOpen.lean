/- What is proved here: how an argument that is a prefix comes in, and what the copying of a prefix answers. No condition. -/
import Derived.Test.YtkdnccjbhkmheaaDoorOpen
import Derived.Test.YtkdnccjbhkmheaaDoorPxFn
namespace Go.Proofs.YtkdnccjbhkmheaaDoor
open Go.ChangeShapes Go.WideShapes Go.ChangeAt Go.RowKit

end Go.Proofs.YtkdnccjbhkmheaaDoor
