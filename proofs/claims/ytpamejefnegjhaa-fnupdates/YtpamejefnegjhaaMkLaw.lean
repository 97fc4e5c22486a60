/- What is proved here: what the marking of lists of prefixes, of numbers, of attributes and of an update leaves, and what the looking for marks answers. -/
import Derived.Test.YtpamejefnegjhaaUpLaw
namespace Go.Proofs.Ytpamejefnegjhaa
open Go.RowKit Go.Sort
set_option linter.unusedVariables false

/-- n prefixes, marked from s on. -/
def mkP : Int → Nat → List (Int × Int)
  | _, 0 => []
  | s, n + 1 => (s, s + 1) :: mkP (s + 2) n
theorem mkP_len : ∀ (n : Nat) (s : Int), (mkP s n).length = n
  | 0, _ => rfl
  | n + 1, s => by simp [mkP, mkP_len n]
theorem mkP_get : ∀ (n : Nat) (s : Int) (j : Nat), j < n → (mkP s n)[j]? = some (s + 2 * j, s + 2 * j + 1)
  | 0, _, j, h => by omega
  | n + 1, s, 0, _ => by simp [mkP]
  | n + 1, s, j + 1, h => by
    rw [mkP, List.getElem?_cons_succ, mkP_get n (s + 2) j (by omega)]
    congr 2 <;> omega
/-- The first k are marked. -/
def half (s : Int) (ps : List (Int × Int)) (k : Nat) : List (Int × Int) := mkP s k ++ ps.drop k
theorem half_zero (s : Int) (ps : List (Int × Int)) : half s ps 0 = ps := by simp [half, mkP]
theorem half_all (s : Int) (ps : List (Int × Int)) : half s ps ps.length = mkP s ps.length := by simp [half]
theorem mkP_snoc : ∀ (n : Nat) (s : Int), mkP s (n + 1) = mkP s n ++ [(s + 2 * n, s + 2 * n + 1)]
  | 0, s => by simp [mkP]
  | n + 1, s => by
    rw [mkP, mkP_snoc n (s + 2), mkP, List.cons_append]
    congr 3
    congr 1 <;> omega
theorem half_next (s : Int) (ps : List (Int × Int)) (k : Nat) (h : k < ps.length) : (half s ps k).set k (s + 2 * k, s + 2 * k + 1) = half s ps (k + 1) := by
  unfold half
  rw [mkP_snoc, List.set_append_right _ _ (by rw [mkP_len]; exact Nat.le_refl _), mkP_len, Nat.sub_self, List.drop_eq_getElem_cons h, List.set_cons_zero, List.append_assoc, List.singleton_append]

/-- n numbers, marked from s on. -/
def mkN (s : Int) (n : Nat) : List Int := (List.range n).map (fun i : Nat => s + i)
theorem mkN_len (s : Int) (n : Nat) : (mkN s n).length = n := by simp [mkN]
theorem mkN_succ (s : Int) (n : Nat) : mkN s (n + 1) = mkN s n ++ [s + n] := by simp [mkN, List.range_succ]
theorem mkN_get (s : Int) (n j : Nat) (hj : j < n) : (mkN s n)[j]? = some (s + j) := by simp [mkN, hj]

theorem mkN_ob (xs : List Int) (k : Int) (j n : Nat) (hn : xs.length = n) (hj : j < n) :
    ((mkN k j ++ xs.drop j).map (Value.int .i64)).set j (.int .i64 (k + j)) = (mkN k (j + 1) ++ xs.drop (j + 1)).map (Value.int .i64) := by
  rw [← List.map_set, List.set_append_right _ _ (by rw [mkN_len]; omega), mkN_len, Nat.sub_self, mkN_succ, List.drop_eq_getElem_cons (by omega), List.set_cons_zero]
  simp

end Go.Proofs.Ytpamejefnegjhaa
