/- What is proved here: what the looking for marks in lists of routes and what the comparing, the marking and the looking for marks of answers with routes answer, for lists of at most 1048576 routes with paths of at most 1048576 numbers. -/
import Derived.Test.YtnjleachioapdaaR7Mark
namespace Go.Proofs.Ytnjleachioapdaa
open Go.RowKit Go.Sort
set_option linter.unusedVariables false

/-- An answer: a code, and routes that the call owns. -/
def RAns (w : World) (z : Int) (R : List Rt) (e : Ending) (w' : World) : Prop :=
  ∃ A n c V, e = .returned (.agg #[.int .i64 z, .slice A n c]) ∧ V.map Rv.r = R ∧ V.length = n ∧ OwT w' w.heap.size w'.heap.size (.slice A n c) V ∧ New w w'

end Go.Proofs.Ytnjleachioapdaa
