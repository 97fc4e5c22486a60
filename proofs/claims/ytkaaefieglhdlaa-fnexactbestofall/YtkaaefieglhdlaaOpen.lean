/- What is proved here: how an argument that is a list of bytes comes in and goes out, for the rows of the laws. -/
import Derived.Test.YtkaaefieglhdlaaUtil
import Derived.ProofKit
import Derived.OpenShut
import Derived.ShutString
import Derived.ChangeOld
import Derived.Lib.SmallJoins
namespace Go.Proofs.Ytkaaefieglhdlaa
open Go.ChangeShapes Go.WideShapes Go.ChangeAt Go.RowKit

theorem own : ownKnob Try.prog.godebug = none := by kernel_rfl
theorem laidOut : laidOutB Try.prog = true := by kernel_rfl

end Go.Proofs.Ytkaaefieglhdlaa
