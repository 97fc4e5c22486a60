/- What is proved here: what the marking of lists of prefixes, of numbers, of attributes and of an update leaves, and what the looking for marks answers. -/
import Derived.Test.YtljkcijakdhdiaaUpLaw
namespace Go.Proofs.Ytljkcijakdhdiaa
open Go.RowKit Go.Sort
set_option linter.unusedVariables false

/-- n prefixes, marked from s on. -/
def mkP : Int → Nat → List (Int × Int)
  | _, 0 => []
  | s, n + 1 => (s, s + 1) :: mkP (s + 2) n
theorem mkP_len : ∀ (n : Nat) (s : Int), (mkP s n).length = n
  | 0, _ => rfl
  | n + 1, s => by simp [mkP, mkP_len n]
theorem mkP_get : ∀ (n : Nat) (s : Int) (j : Nat), j < n → (mkP s n)[j]? = some (s + 2 * j, s + 2 * j + 1)
  | 0, _, j, h => by omega
  | n + 1, s, 0, _ => by simp [mkP]
  | n + 1, s, j + 1, h => by
    rw [mkP, List.getElem?_cons_succ, mkP_get n (s + 2) j (by omega)]
    congr 2 <;> omega
/-- The first k are marked. -/
def half (s : Int) (ps : List (Int × Int)) (k : Nat) : List (Int × Int) := mkP s k ++ ps.drop k
theorem half_zero (s : Int) (ps : List (Int × Int)) : half s ps 0 = ps := by simp [half, mkP]
theorem half_all (s : Int) (ps : List (Int × Int)) : half s ps ps.length = mkP s ps.length := by simp [half]
theorem mkP_snoc : ∀ (n : Nat) (s : Int), mkP s (n + 1) = mkP s n ++ [(s + 2 * n, s + 2 * n + 1)]
  | 0, s => by simp [mkP]
  | n + 1, s => by
    rw [mkP, mkP_snoc n (s + 2), mkP, List.cons_append]
    congr 3
    congr 1 <;> omega
theorem half_next (s : Int) (ps : List (Int × Int)) (k : Nat) (h : k < ps.length) : (half s ps k).set k (s + 2 * k, s + 2 * k + 1) = half s ps (k + 1) := by
  unfold half
  rw [mkP_snoc, List.set_append_right _ _ (by rw [mkP_len]; exact Nat.le_refl _), mkP_len, Nat.sub_self, List.drop_eq_getElem_cons h, List.set_cons_zero, List.append_assoc, List.singleton_append]


set_option maxHeartbeats 800000 in
theorem markPs_t (g m c : Nat) (ps : List (Int × Int)) (s : Int) (w : World) (h : OwP w g m c ps) (hm : m ≤ 1048576) (hs0 : 0 ≤ s) (hs1 : s ≤ 1073741824) :
    Calls Try.prog 45 #[.slice (some ⟨g, 0, none⟩) m c, .int .i64 s] w fun e w' => e = .returned (.int .i64 (s + 2 * (m : Int))) ∧ OwP w' g m c (mkP s m) ∧ Turn (fun k => k = g) w w' := by
  have HL : Hid (ps.length = m) := h.len
  go_enter Try.func45, Try.ntmps45
  go_wp2_with fail
  go_loopw [1, 5] (fun t i wr => ∃ k : Nat, k ≤ m ∧ i = .int .i64 k ∧ t = .int .i64 (s + 2 * (k : Int)) ∧ OwP wr g m c (half s ps k) ∧ Turn (fun q => q = g) w wr) (fun _ i _ => m - (intOf i).toNat)
  case atStart => exact ⟨0, Nat.zero_le _, rfl, by simp, by rw [half_zero]; exact h, Turn.refl _ _⟩
  case round =>
    obtain ⟨k, hk, rfl, rfl, ho, ht⟩ := hrel
    by_cases hlt : k < m
    · obtain ⟨v0, c0⟩ := ho.cell (k * 2) (by omega)
      obtain ⟨v1, c1⟩ := ho.cell (k * 2 + 1) (by omega)
      have f0 := fun j => World.ownsRow.frozenAt ho j
      have hp := ho.put k (s + 2 * (k : Int)) (s + 2 * (k : Int) + 1)
      rw [half_next s ps k (by rw [HL.out]; exact hlt)] at hp
      go_wp2
      go_roundw
      case rel => exact ⟨k + 1, by omega, by go_num, by go_num, hp, (ht.set rfl _).set rfl _⟩
      case measure => simp [intOf]; omega
    · obtain rfl : k = m := by omega
      go_wp2
      go_ret
      refine ⟨rfl, ?_, ht⟩
      have := half_all s ps
      rw [HL.out] at this
      rw [← this]
      exact ho

/-- n numbers, marked from s on. -/
def mkN (s : Int) (n : Nat) : List Int := (List.range n).map (fun i : Nat => s + i)
theorem mkN_len (s : Int) (n : Nat) : (mkN s n).length = n := by simp [mkN]
theorem mkN_succ (s : Int) (n : Nat) : mkN s (n + 1) = mkN s n ++ [s + n] := by simp [mkN, List.range_succ]
theorem mkN_get (s : Int) (n j : Nat) (hj : j < n) : (mkN s n)[j]? = some (s + j) := by simp [mkN, hj]

theorem mkN_ob (xs : List Int) (k : Int) (j n : Nat) (hn : xs.length = n) (hj : j < n) :
    ((mkN k j ++ xs.drop j).map (Value.int .i64)).set j (.int .i64 (k + j)) = (mkN k (j + 1) ++ xs.drop (j + 1)).map (Value.int .i64) := by
  rw [← List.map_set, List.set_append_right _ _ (by rw [mkN_len]; omega), mkN_len, Nat.sub_self, mkN_succ, List.drop_eq_getElem_cons (by omega), List.set_cons_zero]
  simp

set_option maxHeartbeats 800000 in
theorem markNs_t (g m c : Nat) (xs : List Int) (s : Int) (w : World) (h : OwN w g m c xs) (hm : m ≤ 1048576) (hs0 : 0 ≤ s) (hs1 : s ≤ 1073741824) :
    Calls Try.prog 46 #[.slice (some ⟨g, 0, none⟩) m c, .int .i64 s] w fun e w' => e = .returned (.int .i64 (s + (m : Int))) ∧ OwN w' g m c (mkN s m) ∧ Turn (fun k => k = g) w w' := by
  have HL : Hid (xs.length = m) := h.len
  go_enter Try.func46, Try.ntmps46
  go_wp2_with fail
  go_loopw [1, 5] (fun t i wr => ∃ k : Nat, k ≤ m ∧ i = .int .i64 k ∧ t = .int .i64 (s + (k : Int)) ∧ OwN wr g m c (mkN s k ++ xs.drop k) ∧ Turn (fun q => q = g) w wr) (fun _ i _ => m - (intOf i).toNat)
  case atStart => exact ⟨0, Nat.zero_le _, rfl, by simp, by simpa [mkN] using h, Turn.refl _ _⟩
  case round =>
    obtain ⟨k, hk, rfl, rfl, ho, ht⟩ := hrel
    by_cases hlt : k < m
    · have hfz := World.ownsRow.frozenAt ho k
      have hst := World.ownsRow.stored ho k (.int .i64 (s + k))
      rw [mkN_ob xs s k m HL.out hlt] at hst
      obtain ⟨HS, hgr⟩ := hst
      have hcw : ∃ v, wr.cell? ⟨g, k, none⟩ = some v := by
        rw [World.ownsRow.cellAt ho k (by omega)]
        exact ⟨_, List.getElem?_eq_getElem (by have := ho.1; omega)⟩
      obtain ⟨v, hv⟩ := hcw
      clear ho
      go_wp2
      go_roundw
      case rel => exact ⟨k + 1, by omega, by go_num, by go_num, HS, Turn.trans ht (Turn.of_grown (g := g) hgr) (fun i _ e => e)⟩
      case measure => simp [intOf]; omega
    · obtain rfl : k = m := by omega
      go_wp2
      go_ret
      rw [List.drop_of_length_le (by rw [HL.out]; omega), List.append_nil] at ho
      exact ⟨rfl, ho, ht⟩

end Go.Proofs.Ytljkcijakdhdiaa
