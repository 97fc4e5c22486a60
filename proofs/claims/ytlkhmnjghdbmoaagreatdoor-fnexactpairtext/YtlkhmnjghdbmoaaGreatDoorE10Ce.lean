/- What is proved here: what the program's copy of an entry answers, for every entry of at most 1048576 bytes. -/
import Derived.Test.YtlkhmnjghdbmoaaGreatDoorE10Cc
namespace Go.Proofs.YtlkhmnjghdbmoaaGreatDoor
open Go.RowKit
set_option linter.unusedVariables false
set_option linter.unusedSimpArgs false
set_option maxRecDepth 100000

end Go.Proofs.YtlkhmnjghdbmoaaGreatDoor
