/- What is proved here: how an argument that is a thing told or a list of things told comes in. No condition. -/
import Derived.Test.YtdknalegmlpimaaT8Lib
import Derived.Test.YtdknalegmlpimaaAtOpen
import Derived.Deep.SlicePairs
namespace Go.Proofs.Ytdknalegmlpimaa
open Go.ChangeShapes Go.WideShapes Go.ChangeAt Go.RowKit Go.Deep

/-- A thing told that came in: its path is there. -/
def Tv.came (w : World) (v : Tv) : Prop := NsAt w v.x v.r.xs ∧ (v.x = none → v.r.xs.length = 0 ∧ v.c = 0) ∧ v.r.xs.length ≤ maxLen

/-- The address leads to the things told that came in. -/
def TdCame (w : World) (A : Option Addr) (V : List Tv) : Prop :=
  ∀ i v, V[i]? = some v → (∃ b off, A = some ⟨b, off, none⟩ ∧ ∀ j, j < 7 → w.cell? ⟨b, off + i * 7 + j, none⟩ = v.cs[j]?) ∧ v.came w

end Go.Proofs.Ytdknalegmlpimaa
