/- What is proved here: what the two readings of a number in bytes answer, for every list of bytes, place and size. -/
import Derived.Test.YtlkhmnjghdbmoaaGreatDoorUtil
namespace Go.Proofs.YtlkhmnjghdbmoaaGreatDoor
open Go.RowKit

def num (l : List Int) : Int := l.foldl (fun n z => n * 256 + z) 0
theorem num_snoc (l : List Int) (z : Int) : num (l ++ [z]) = num l * 256 + z := by simp [num]
theorem num_bd3 (l : List Int) (h : ∀ z ∈ l, 0 ≤ z ∧ z ≤ 255) (hl : l.length ≤ 3) : 0 ≤ num l ∧ num l ≤ 16777215 := by
  match l, hl with
  | [], _ => simp [num]
  | [a], _ => have := h a (by simp); simp [num]; omega
  | [a, b], _ => have := h a (by simp); have := h b (by simp); simp [num]; omega
  | [a, b, c], _ => have := h a (by simp); have := h b (by simp); have := h c (by simp); simp [num]; omega
/-- The number in m bytes from the place t on. -/
def numAt (zs : List Int) (t m : Nat) : Int := num ((zs.drop t).take m)
theorem numAt_snoc {zs : List Int} {t k : Nat} {z : Int} (h : zs[t + k]? = some z) : numAt zs t (k + 1) = numAt zs t k * 256 + z := by
  unfold numAt
  rw [take_snoc (z := z) (by rw [List.getElem?_drop]; exact h)]
  exact num_snoc _ _
theorem numAt_bd3 (zs : List Int) (hz : ∀ z ∈ zs, 0 ≤ z ∧ z ≤ 255) (t k : Nat) (hk : k ≤ 3) : 0 ≤ numAt zs t k ∧ numAt zs t k ≤ 16777215 :=
  num_bd3 _ (fun z h => hz z (List.mem_of_mem_drop (List.mem_of_mem_take h))) (by rw [List.length_take]; omega)
theorem numAt_bd4 (zs : List Int) (hz : ∀ z ∈ zs, 0 ≤ z ∧ z ≤ 255) (t k : Nat) (hk : k ≤ 4) : 0 ≤ numAt zs t k ∧ numAt zs t k ≤ 4294967295 := by
  by_cases h : k ≤ 3
  · have := numAt_bd3 zs hz t k h; omega
  · obtain rfl : k = 3 + 1 := by omega
    have h3 := numAt_bd3 zs hz t 3 (Nat.le_refl _)
    cases hg : zs[t + 3]? with
    | none =>
      have : numAt zs t (3 + 1) = numAt zs t 3 := by
        unfold numAt
        have : (zs.drop t).length ≤ 3 := by rw [List.length_drop]; have := List.getElem?_eq_none_iff.1 hg; omega
        rw [List.take_of_length_le (by omega), List.take_of_length_le this]
      omega
    | some z => rw [numAt_snoc hg]; have := hz z (List.mem_of_getElem? hg); omega

theorem New.cells {W w1 : World} (hb : New W w1) : ∀ b o, b < W.heap.size → w1.cell? ⟨b, o, none⟩ = W.cell? ⟨b, o, none⟩ :=
  fun b o h => hb.below.cell (p := ⟨b, o, none⟩) h

theorem New.frozens {W w1 : World} (hb : New W w1) : ∀ b o, b < W.heap.size → w1.frozen? ⟨b, o, none⟩ = W.frozen? ⟨b, o, none⟩ :=
  fun b o h => hb.below.frozen (p := ⟨b, o, none⟩) h

theorem in_yes (v lo hi : Int) (w : World) (h : lo ≤ v ∧ v ≤ hi) : Calls Tryz.prog 70 #[.int .i64 v, .int .i64 lo, .int .i64 hi] w fun e w' => e = .returned (.bool true) ∧ w' = w := by
  obtain ⟨h1, h2⟩ := h
  go_enter Tryz.func70, Tryz.ntmps70
  go_wp2
  go_ret
  exact ⟨by simp, rfl⟩

theorem in_no (v lo hi : Int) (w : World) (h : v < lo ∨ hi < v) : Calls Tryz.prog 70 #[.int .i64 v, .int .i64 lo, .int .i64 hi] w fun e w' => e = .returned (.bool false) ∧ w' = w := by
  by_cases h1 : lo ≤ v
  · have h2 : hi < v := by omega
    go_enter Tryz.func70, Tryz.ntmps70
    go_wp2
    go_ret
    exact ⟨by simp; omega, rfl⟩
  · go_enter Tryz.func70, Tryz.ntmps70
    go_wp2
    go_ret
    exact ⟨rfl, rfl⟩

end Go.Proofs.YtlkhmnjghdbmoaaGreatDoor
