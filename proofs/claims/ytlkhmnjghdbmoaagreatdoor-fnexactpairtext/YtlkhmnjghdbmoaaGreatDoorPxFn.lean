/- What is proved here: what the asking of a prefix for an address, and of one prefix for another, answer, in the program and in its model, at all numbers. No condition. -/
import Derived.Test.YtlkhmnjghdbmoaaGreatDoorPxLib
import Derived.Test.YtlkhmnjghdbmoaaGreatDoorQB
import Derived.Deep.RegionWith
namespace Go.Proofs.YtlkhmnjghdbmoaaGreatDoor
open Go.RowKit Go.Sort

theorem pf_three (a l : Int) : pf a l = 0 ∨ pf a l = 1 ∨ pf a l = 3 := by
  unfold pf
  split
  · exact .inr (.inr rfl)
  · split
    · exact .inr (.inl rfl)
    · exact .inl rfl

theorem implPF_is (a l c : Int) (w : World) (h : pf a l = c) : Calls Tryz.prog 122 #[.agg #[.int .i64 a, .int .i64 l]] w fun e w' => e = .returned (.int .i64 c) ∧ New w w' := h ▸ implPF a l w
theorem specPF_is (a l c : Int) (w : World) (h : pf a l = c) : Calls Tryz.prog 119 #[.agg #[.int .i64 a, .int .i64 l]] w fun e w' => e = .returned (.int .i64 c) ∧ New w w' := h ▸ specPF a l w

end Go.Proofs.YtlkhmnjghdbmoaaGreatDoor
