/- What is proved here: what the marking and holding of mails and of answers with nodes leave. -/
import Derived.Test.YtkbdmcimgepakaaGreatK12Mr
namespace Go.Proofs.YtkbdmcimgepakaaGreat
open Go.RowKit Go.Sort
set_option linter.unusedVariables false
set_option linter.unusedSimpArgs false
set_option maxRecDepth 100000

/-- What the mark says of Has. -/
def bq (k : Int) : Bool := ((k + 1 + 1 + 1 + 1 + 1) % 3 == 0)
/-- A mail, marked from k on. -/
def MlV.mk9 (k : Int) (v : MlV) : MlV := ⟨⟨k, k + 1, k + 1 + 1, k + 1 + 1 + 1, k + 1 + 1 + 1 + 1, bq k, ⟨k + 1 + 1 + 1 + 1 + 1 + 1, k + 1 + 1 + 1 + 1 + 1 + 1 + 1, k + 1 + 1 + 1 + 1 + 1 + 1 + 1 + 1, marks (k + 1 + 1 + 1 + 1 + 1 + 1 + 1 + 1 + 1) v.m.e.xs.length⟩⟩, v.a, v.c⟩
def markM (k : Int) (M : List MlV) : List MlV := M.map (MlV.mk9 k)
def endM (k : Int) : List MlV → Int
  | [] => k
  | v :: _ => k + 1 + 1 + 1 + 1 + 1 + 1 + 1 + 1 + 1 + v.m.e.xs.length
theorem endM_bd (k : Int) (M : List MlV) : k ≤ endM k M := by
  cases M with
  | nil => exact Int.le_refl _
  | cons v M => show k ≤ k + 1 + 1 + 1 + 1 + 1 + 1 + 1 + 1 + 1 + (v.m.e.xs.length : Int); omega

end Go.Proofs.YtkbdmcimgepakaaGreat
