/- What is proved here: what the program's NewRouter answers, for rules of at most 1048576. -/
import Derived.Test.YtdknalegmlpimaaN9Res
import Derived.Test.YtdknalegmlpimaaG9Se
namespace Go.Proofs.Ytdknalegmlpimaa
open Go.RowKit Go.Sort
set_option linter.unusedVariables false

end Go.Proofs.Ytdknalegmlpimaa
