/- What is proved here: what the judging of a prefix answers, in the program and in its model, at every two numbers. No condition. -/
import Derived.Test.YtkdnccjbhkmheaaDoorNumLib
import Derived.Test.YtkdnccjbhkmheaaDoorPxMath
namespace Go.Proofs.YtkdnccjbhkmheaaDoor
open Go.RowKit

theorem ret_u16 {a b : Int} (h : a = b) : Ending.returned (.int .u16 a) = .returned (.int .u16 b) := by rw [h]
theorem ret_bool {a b : Bool} (h : a = b) : Ending.returned (.bool a) = .returned (.bool b) := by rw [h]

theorem mask_small : ∀ k : Nat, k < 17 → 65535 * 2 ^ k % 65536 = 65536 - 2 ^ k := by decide
theorem mask_eq {l : Int} (h0 : 0 ≤ l) (h1 : l ≤ 16) : IntKind.u16.wrap (65535 * 2 ^ (16 - l).toNat) = 65536 - szp l := by
  obtain ⟨k, hk, rfl⟩ := len_cases h0 h1
  have hp := pow_bd k hk
  have hm := mask_small k (by omega)
  rw [szp_nat k hk, IntKind.wrap_u16, show (16 - (16 - (k : Int))).toNat = k by omega]
  have : (65535 * 2 ^ k : Int) = ((65535 * 2 ^ k : Nat) : Int) := by simp
  rw [this]
  omega

theorem rest_small : ∀ k : Nat, k < 17 → (2 ^ k : Nat) ≤ 65536 := by decide

end Go.Proofs.YtkdnccjbhkmheaaDoor
