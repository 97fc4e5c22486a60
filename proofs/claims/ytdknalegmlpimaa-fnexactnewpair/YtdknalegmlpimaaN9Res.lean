/- What is proved here: what the program makes of a new router at work, for rules of at most 1048576. -/
import Derived.Test.YtdknalegmlpimaaN9Ap
import Derived.Test.YtdknalegmlpimaaN9In
import Derived.Deep.RegionHeld3
import Derived.Deep.MidRow
namespace Go.Proofs.Ytdknalegmlpimaa
open Go.RowKit Go.Sort
set_option linter.unusedVariables false

theorem set10 (w : World) (B : Nat) (v0 v1 v2 v3 v4 v5 v6 v7 v8 v9 : Value) : Turn (fun k => k = B) w ((((((((((w.setCell ⟨B, 0, none⟩ v0).setCell ⟨B, 1, none⟩ v1).setCell ⟨B, 2, none⟩ v2).setCell ⟨B, 3, none⟩ v3).setCell ⟨B, 4, none⟩ v4).setCell ⟨B, 5, none⟩ v5).setCell ⟨B, 6, none⟩ v6).setCell ⟨B, 7, none⟩ v7).setCell ⟨B, 8, none⟩ v8).setCell ⟨B, 9, none⟩ v9) :=
  Turn.here9 (Turn.here9 (Turn.here9 (Turn.here9 (Turn.here9 (Turn.here9 (Turn.here9 (Turn.here9 (Turn.here9 (Turn.here9 (Turn.refl _ _) _) _) _) _) _) _) _) _) _) _

end Go.Proofs.Ytdknalegmlpimaa
