/- What is proved here: what the program's packing of attributes answers, for attributes without a fault. -/
import Derived.Test.YtohngojiomgoeaaDoorUpPack
namespace Go.Proofs.YtohngojiomgoeaaDoor
open Go.RowKit Go.Sort
set_option linter.unusedVariables false

/-- The bytes of attributes. -/
def atB (o : Int) (xs : List Int) (nx md lc : Int) : List Int := [(xs.length : Int)] ++ nsB xs ++ [o] ++ [nx / 256, nx % 256, md / 256, md % 256, lc / 256, lc % 256]
theorem atB_len (o : Int) (xs : List Int) (nx md lc : Int) : (atB o xs nx md lc).length = xs.length * 2 + 8 := by
  simp [atB, nsB_len]

theorem afc_all : ∀ {xs : List Int}, afc xs = 0 → ∀ x ∈ xs, 1 ≤ x ∧ x ≤ 65535
  | [], _ => by simp
  | y :: r, h => by
    unfold afc at h
    split at h
    · rename_i hy
      intro x hx
      rcases List.mem_cons.1 hx with rfl | hx
      · exact hy
      · exact afc_all h x hx
    · cases h
theorem af_ok {o nx md lc : Int} {xs : List Int} (h : af o xs nx md lc = 0) : Ao o nx md lc ∧ xs.length ≤ 6 ∧ ∀ x ∈ xs, 1 ≤ x ∧ x ≤ 65535 := by
  unfold af at h
  split at h
  · rename_i ho
    split at h
    · cases h
    · exact ⟨ho, by omega, afc_all h⟩
  · cases h

/-- Where bytes that are appended lie: at their old place, or in new memory. -/
theorem grow_at {w w1 : World} {g g1 g2 H : Nat} {v : Value} (h1 : g1 = g ∨ w.heap.size ≤ g1) (hv : v.ownBlock = some g1) (hH : w.heap.size ≤ H) (h : v.ownBlock = some g2 ∨ g2 = H) : g2 = g ∨ w.heap.size ≤ g2 := by
  rcases h with h' | h'
  · rw [hv] at h'
    obtain rfl := Option.some.inj h'
    exact h1
  · right; omega

end Go.Proofs.YtohngojiomgoeaaDoor
