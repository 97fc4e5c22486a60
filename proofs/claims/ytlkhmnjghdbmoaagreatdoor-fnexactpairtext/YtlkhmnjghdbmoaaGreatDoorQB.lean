/- What is proved here: how a region whose callees lay new memory and turn none is walked once: the class of worlds in which nothing old has turned. No condition. -/
import Derived.Test.YtlkhmnjghdbmoaaGreatDoorBytes
import Derived.Lib.QuietBelow
namespace Go.Proofs.YtlkhmnjghdbmoaaGreatDoor
open Go.RowKit Go.Sort

theorem new_of_regrown {w w' : World} (h : ∃ p : Regrown, w' = grow (redrawn w p.d) p.os) : New w w' := by
  obtain ⟨p, rfl⟩ := h
  exact New.of_below (below_regrown w p.d p.os) (Nat.le_refl _)

theorem new_regrown (w : World) (d : Nat) (os : Array Obj) : New w (grow (redrawn w d) os) := new_of_regrown ⟨⟨d, os⟩, rfl⟩

/-- A callee that lays new memory alone, met in a world of the class. -/
theorem calls_regrown {P : Program} {f : FuncId} {args : Array Value} {w : World} {d : Nat} {os : Array Obj} {v : Value}
    (h : Calls P f args (grow (redrawn w d) os) fun e w' => e = .returned v ∧ New (grow (redrawn w d) os) w') : Calls P f args (grow (redrawn w d) os) fun e w'' => e = .returned v ∧ ∃ p : Regrown, w'' = grow (redrawn w p.d) p.os :=
  Calls.regrown_of (h.mono fun _ _ ⟨he, hb⟩ => ⟨he, hb.below⟩)
theorem calls_regrown_same {P : Program} {f : FuncId} {args : Array Value} {w : World} {d : Nat} {os : Array Obj} {v : Value}
    (h : Calls P f args (grow (redrawn w d) os) fun e w' => e = .returned v ∧ w' = grow (redrawn w d) os) : Calls P f args (grow (redrawn w d) os) fun e w'' => e = .returned v ∧ ∃ p : Regrown, w'' = grow (redrawn w p.d) p.os :=
  calls_regrown (h.mono fun _ _ ⟨he, hb⟩ => ⟨he, by rw [hb]; exact New.refl _⟩)

/-- A block's cells, in every world of the class. -/
theorem blk_regrown {w : World} {B : Nat} {t : TypeId} {cs : Array Value} (h : Blk w B t cs) : ∀ (d : Nat) (os : Array Obj) (j : Nat), (grow (redrawn w d) os).cell? ⟨B, j, none⟩ = cs[j]? :=
  fun d os j => (h.new (new_regrown w d os)).cells j

end Go.Proofs.YtlkhmnjghdbmoaaGreatDoor
