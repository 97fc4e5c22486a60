/- What is proved here: what the copying, measuring, comparing and judging of a frame answer, for every frame whose body has at most 1048576 bytes. -/
import Derived.Test.YtlkhmnjghdbmoaaGreatDoorNumLib
namespace Go.Proofs.YtlkhmnjghdbmoaaGreatDoor
open Go.RowKit

theorem szBytes_ok (a : Option Addr) (n c l : Nat) (w : World) (hl : l ≤ 1048576) (h : n ≤ l) : Calls Tryz.prog 64 #[.slice a n c, .int .i64 l] w fun e w' => e = .returned (.int .i64 ((l : Int) - n)) ∧ New w w' := by
  go_enter Tryz.func64, Tryz.ntmps64
  go_wp2
  go_ret
  exact ⟨rfl, New.refl _⟩

theorem szBytes_big (a : Option Addr) (n c l : Nat) (w : World) (hl : l ≤ 1048576) (hn : n ≤ maxLen) (h : l < n) : Calls Tryz.prog 64 #[.slice a n c, .int .i64 l] w fun e w' => e = .returned (.int .i64 (-1)) ∧ New w w' := by
  unfold maxLen at hn
  go_enter Tryz.func64, Tryz.ntmps64
  go_wp2
  go_ret
  exact ⟨rfl, New.refl _⟩

/-- The fault of a frame. -/
def ff (k : Int) (n : Nat) : Int := if k < 1 ∨ 4 < k then 3 else if 120 < n then 2 else 0

end Go.Proofs.YtlkhmnjghdbmoaaGreatDoor
