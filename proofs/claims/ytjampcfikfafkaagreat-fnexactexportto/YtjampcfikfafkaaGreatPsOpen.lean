/- What is proved here: how an argument that is a list of prefixes comes in. No condition. -/
import Derived.Test.YtjampcfikfafkaaGreatPsFn
import Derived.Deep.SlicePairs
namespace Go.Proofs.YtjampcfikfafkaaGreat
open Go.ChangeShapes Go.WideShapes Go.ChangeAt Go.RowKit Go.Deep

theorem in6_of_wf {x : Int} (h : (Lit.int .i64 x).wf = true) : In6 x := by
  simpa [Lit.wf, IntKind.min, IntKind.max, IntKind.signed, IntKind.bits, In6] using h

end Go.Proofs.YtjampcfikfafkaaGreat
