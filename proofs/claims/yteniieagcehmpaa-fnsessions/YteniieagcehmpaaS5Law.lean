/- What is proved here: what the comparing, the marking and the looking up of answers of sessions answer, where at most one message is said. No condition. -/
import Derived.Test.YteniieagcehmpaaS5Ans
import Derived.Deep.RegionHeld3
import Derived.Below
namespace Go.Proofs.Yteniieagcehmpaa
open Go.RowKit
set_option linter.unusedVariables false

/-- The message that is said, marked. -/
def MkAt (w : World) (g : Nat) (v : Value) : Option (Int × Int × Int × Int × Int × Int) → Prop
  | none => v = .slice none 0 0
  | some _ => v = .slice (some ⟨g, 0, none⟩) 1 1 ∧ Blk w g 35 #[.int .i64 1, .int .i64 2, .int .i64 3, .int .i64 4, .int .i64 5, .int .i64 6, .slice none 0 0, .bool false, .int .i64 8, .slice none 0 0, .int .i64 9, .int .i64 10, .int .i64 11, .slice none 0 0]
theorem MkAt.new {w w' : World} {g : Nat} {v : Value} {say : Option (Int × Int × Int × Int × Int × Int)} (h : MkAt w g v say) (t : New w w') : MkAt w' g v say := by
  cases say with
  | none => exact h
  | some m => exact ⟨h.1, h.2.new t⟩
/-- The number behind the marking. -/
def mkC5 : Option (Int × Int × Int × Int × Int × Int) → Int
  | none => 1
  | some _ => 12

end Go.Proofs.Yteniieagcehmpaa
