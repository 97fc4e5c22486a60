/- What is proved here: what the laws' asking for too many bytes answers. -/
import Derived.Test.YtkjhjfdgkinpjaaDoorBytes
import Derived.Test.YtkjhjfdgkinpjaaDoorRows
namespace Go.Proofs.YtkjhjfdgkinpjaaDoor
open Go.RowKit

theorem lbig_no (a : Option Addr) (n c : Nat) (w : World) (h : ¬ 1048576 < n) : Calls Tryd.prog 5 #[.slice a n c] w fun e w' => e = .returned (.bool false) ∧ w' = w := by
  have hd : decide ((1048576 : Int) < (n : Int)) = false := by simp; omega
  go_enter Tryd.func5, Tryd.ntmps5
  go_wp2
  go_ret
  exact ⟨rfl, rfl⟩

theorem lbig_yes (a : Option Addr) (n c : Nat) (w : World) (h : 1048576 < n) : Calls Tryd.prog 5 #[.slice a n c] w fun e w' => e = .returned (.bool true) ∧ w' = w := by
  have hd : decide ((1048576 : Int) < (n : Int)) = true := by simp; omega
  go_enter Tryd.func5, Tryd.ntmps5
  go_wp2
  go_ret
  exact ⟨rfl, rfl⟩

end Go.Proofs.YtkjhjfdgkinpjaaDoor
