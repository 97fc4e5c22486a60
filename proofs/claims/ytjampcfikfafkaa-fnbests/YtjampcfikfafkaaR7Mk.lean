/- What is proved here: what the marking of numbers and the looking for marks answer, for lists of at most 1048576 numbers. -/
import Derived.Test.YtjampcfikfafkaaR6Pa
namespace Go.Proofs.Ytjampcfikfafkaa
open Go.RowKit Go.Sort
set_option linter.unusedVariables false

theorem OvN.nil7 (w : World) (lo : Nat) : OvN w lo (.slice none 0 0) [] := ⟨rfl, .inl ⟨rfl, rfl⟩⟩

/-- n numbers, marked from s on. -/
def mkN7 (s : Int) (n : Nat) : List Int := (List.range n).map (fun i : Nat => s + i)
theorem mkN7_len (s : Int) (n : Nat) : (mkN7 s n).length = n := by simp [mkN7]
theorem mkN7_succ (s : Int) (n : Nat) : mkN7 s (n + 1) = mkN7 s n ++ [s + n] := by simp [mkN7, List.range_succ]
theorem mkN7_get (s : Int) (n j : Nat) (hj : j < n) : (mkN7 s n)[j]? = some (s + j) := by simp [mkN7, hj]
theorem mkN7_in (s : Int) (n : Nat) (h0 : 0 ≤ s) (h1 : s ≤ 1125899906842624) (h2 : n ≤ 1048576) : ∀ z ∈ mkN7 s n, In6 z := by
  intro z hz
  simp only [mkN7, List.mem_map, List.mem_range] at hz
  obtain ⟨i, hi, rfl⟩ := hz
  unfold In6
  omega
theorem mkN7_ob (xs : List Int) (k : Int) (j n : Nat) (hn : xs.length = n) (hj : j < n) :
    ((mkN7 k j ++ xs.drop j).map (Value.int .i64)).set j (.int .i64 (k + j)) = (mkN7 k (j + 1) ++ xs.drop (j + 1)).map (Value.int .i64) := by
  rw [← List.map_set, List.set_append_right _ _ (by rw [mkN7_len]; omega), mkN7_len, Nat.sub_self, mkN7_succ, List.drop_eq_getElem_cons (by omega), List.set_cons_zero]
  simp

theorem OvN.nsAt7 {w : World} {lo n k : Nat} {a : Option Addr} {xs : List Int} (h : OvN w lo (.slice a n k) xs) (hb : ∀ z ∈ xs, In6 z) : NsAt w a xs := by
  obtain ⟨a', c, e, h1, _⟩ := h.ns hb
  cases e
  exact h1

end Go.Proofs.Ytjampcfikfafkaa
