/- What is proved here: how an argument that is a thing told or a list of things told comes in. No condition. -/
import Derived.Test.YtjampcfikfafkaaGreatT8Lib
import Derived.Test.YtjampcfikfafkaaGreatAtOpen
import Derived.Deep.SlicePairs
namespace Go.Proofs.YtjampcfikfafkaaGreat
open Go.ChangeShapes Go.WideShapes Go.ChangeAt Go.RowKit Go.Deep

set_option maxRecDepth 100000 in
theorem open_nums8 {H : Type} {enc : TypeId × Value → H} {W : World} {base fuel : Nat} {t1 : Nat → Bool} {t2 : Bool} {cs : List Value} {y : DataW H × List MemPlace}
    (hf : DataW.trod enc Tryz.prog W base t1 t2 fuel 34 cs = some y) : ∃ a n c xs, cs = [.slice a n c] ∧ NsAt W a xs ∧ xs.length = n ∧ n ≤ maxLen ∧ (a = none → n = 0 ∧ c = 0) := by
  rcases open_ints Tryz.underlying34 Tryz.underlying2 (by kernel_rfl) hf with ⟨hcs, _⟩ | ⟨x, l, c, zs, hcs, _, hl, hm, hz, _, hcell, hwz⟩
  · exact ⟨none, 0, 0, [], hcs, NsAt.nil _ _, rfl, Nat.zero_le _, fun _ => ⟨rfl, rfl⟩⟩
  · have hz' : l ≤ zs.length := by rw [hz]; split <;> omega
    exact ⟨some x, l, c, zs.take l, hcs, NsAt.of_cells l hcell hwz, by rw [List.length_take]; omega, Nat.le_trans hl hm, by intro e; cases e⟩

/-- A thing told that came in: its path is there. -/
def Tv.came (w : World) (v : Tv) : Prop := NsAt w v.x v.r.xs ∧ (v.x = none → v.r.xs.length = 0 ∧ v.c = 0) ∧ v.r.xs.length ≤ maxLen

/-- The address leads to the things told that came in. -/
def TdCame (w : World) (A : Option Addr) (V : List Tv) : Prop :=
  ∀ i v, V[i]? = some v → (∃ b off, A = some ⟨b, off, none⟩ ∧ ∀ j, j < 7 → w.cell? ⟨b, off + i * 7 + j, none⟩ = v.cs[j]?) ∧ v.came w

end Go.Proofs.YtjampcfikfafkaaGreat
