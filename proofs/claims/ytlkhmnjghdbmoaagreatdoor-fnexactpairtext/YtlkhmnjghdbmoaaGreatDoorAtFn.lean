/- What is proved here: what the comparing of attributes and the judging of an update answer, in the program and in its model, for every lists of at most 1048576 elements. -/
import Derived.Test.YtlkhmnjghdbmoaaGreatDoorAtLib
namespace Go.Proofs.YtlkhmnjghdbmoaaGreatDoor
open Go.RowKit Go.Sort
set_option linter.unusedVariables false

theorem take_eq_next {xs ys : List Int} {k : Nat} {z : Int} (h : xs.take k = ys.take k) (hx : xs[k]? = some z) (hy : ys[k]? = some z) : xs.take (k + 1) = ys.take (k + 1) := by
  rw [take_snoc hx, take_snoc hy, h]

/-- Two attributes have all fields the same. -/
abbrev SaP (o : Int) (xs : List Int) (nx md lc p : Int) (ys : List Int) (ny me ld : Int) : Prop := o = p ∧ nx = ny ∧ md = me ∧ lc = ld ∧ xs = ys

/-- All of the attributes are zero. -/
abbrev ZaP (o : Int) (xs : List Int) (nx md lc : Int) : Prop := o = 0 ∧ xs.length = 0 ∧ nx = 0 ∧ md = 0 ∧ lc = 0

end Go.Proofs.YtlkhmnjghdbmoaaGreatDoor
