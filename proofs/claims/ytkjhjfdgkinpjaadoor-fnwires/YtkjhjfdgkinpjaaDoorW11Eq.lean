/- What is proved here: what bytes.Equal answers. No condition but that the bytes lie in memory. -/
import Derived.Test.YtkjhjfdgkinpjaaDoorS9St
namespace Go.Proofs.YtkjhjfdgkinpjaaDoor
open Go.RowKit
set_option linter.unusedVariables false
set_option linter.unusedSimpArgs false
set_option maxRecDepth 100000

theorem eqB_yes (a b : Option Addr) (n c d : Nat) (xs : List Int) (w : World) (ha : BsAt w a xs) (hb : BsAt w b xs) (hn : xs.length = n) (na : a = none → n = 0 ∧ c = 0) (nb : b = none → n = 0 ∧ d = 0) :
    Calls Tryd.prog 27 #[.slice a n c, .slice b n d] w fun e w' => e = .returned (.bool true) ∧ w' = w := by
  have r1 := run_str9 a n c xs w ha hn na
  have r2 := run_str9 b n d xs w hb hn nb
  have r3 := str_eq_self (str9 xs)
  go_enter Tryd.func27, Tryd.ntmps27
  go_wp2
  go_ret
  exact ⟨rfl, rfl⟩

theorem eqB_no (a b : Option Addr) (n c m d : Nat) (xs ys : List Int) (w : World) (ha : BsAt w a xs) (hb : BsAt w b ys) (hn : xs.length = n) (hm : ys.length = m) (na : a = none → n = 0 ∧ c = 0) (nb : b = none → m = 0 ∧ d = 0) (hne : ¬ xs = ys) :
    Calls Tryd.prog 27 #[.slice a n c, .slice b m d] w fun e w' => e = .returned (.bool false) ∧ w' = w := by
  have r1 := run_str9 a n c xs w ha hn na
  have r2 := run_str9 b m d ys w hb hm nb
  have r3 := str_eq_of (a := str9 xs) (b := str9 ys) (fun e => hne (str9_inj ha.lt hb.lt e))
  have r4 := str_list_of (a := str9 xs) (b := str9 ys) (fun e => hne (str9_inj ha.lt hb.lt e))
  clear hne
  go_enter Tryd.func27, Tryd.ntmps27
  go_wp2
  go_ret
  exact ⟨rfl, rfl⟩

end Go.Proofs.YtkjhjfdgkinpjaaDoor
