/- What is proved here: what is kept while the result of a new router is made. No condition. -/
import Derived.Test.YtdknalegmlpimaaN9Ap
import Derived.Test.YtdknalegmlpimaaN9Ix
namespace Go.Proofs.Ytdknalegmlpimaa
open Go.RowKit Go.Sort
set_option linter.unusedVariables false

/-- The cells of so many links of zeros. -/
def lz9 (k : Nat) : List Value := (List.replicate k [Value.int .i64 0, .int .i64 0, .int .i64 0, .int .i64 0, .int .i64 0, .slice none 0 0, .slice none 0 0]).flatten
theorem lz9_succ (k : Nat) : lz9 (k + 1) = lz9 k ++ [Value.int .i64 0, .int .i64 0, .int .i64 0, .int .i64 0, .int .i64 0, .slice none 0 0, .slice none 0 0] := by
  unfold lz9
  rw [List.replicate_succ', List.flatten_append]
  simp

end Go.Proofs.Ytdknalegmlpimaa
