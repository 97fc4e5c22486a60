/- What is proved here: what the copying, measuring, comparing and judging of a frame answer, for every frame whose body has at most 1048576 bytes. -/
import Derived.Test.YtjampcfikfafkaaGreatNumLib
namespace Go.Proofs.YtjampcfikfafkaaGreat
open Go.RowKit

/-- The fault of a frame. -/
def ff (k : Int) (n : Nat) : Int := if k < 1 ∨ 4 < k then 3 else if 120 < n then 2 else 0

end Go.Proofs.YtjampcfikfafkaaGreat
