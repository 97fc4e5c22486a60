/- What is proved here: that being better is an order. No condition. -/
import Derived.Test.YtjampcfikfafkaaGreatR7Bt
namespace Go.Proofs.YtjampcfikfafkaaGreat
open Go.RowKit

theorem orL_lt (x y : Int) (q : List Int) : orL (cmp3 x y :: q) < 0 ↔ (x < y ∨ (x = y ∧ orL q < 0)) := by
  rcases Int.lt_trichotomy x y with h | h | h
  · rw [cmp3_lt h]; simp [orL, h]
  · rw [cmp3_eq h]; simp [orL, h]
  · rw [cmp3_gt h]; simp [orL]; omega
theorem cmpW_lt (p o md lc : Int) (n : Nat) (p' o' md' lc' : Int) (n' : Nat) : cmpW p o md lc n p' o' md' lc' n' < 0 ↔ (lc' < lc ∨ (lc' = lc ∧ ((n : Int) < n' ∨ ((n : Int) = n' ∧ (o < o' ∨ (o = o' ∧ (md < md' ∨ (md = md' ∧ p < p')))))))) := by
  unfold cmpW
  rw [orL_lt, orL_lt, orL_lt, orL_lt, orL_lt]
  simp [orL]
theorem cmpW_asym {p o md lc p' o' md' lc' : Int} {n n' : Nat} (h : cmpW p o md lc n p' o' md' lc' n' < 0) : ¬ cmpW p' o' md' lc' n' p o md lc n < 0 := by
  rw [cmpW_lt] at h ⊢
  omega
theorem cmpW_tot {p o md lc p' o' md' lc' : Int} {n n' : Nat} (hp : ¬ p = p') (h : ¬ cmpW p o md lc n p' o' md' lc' n' < 0) : cmpW p' o' md' lc' n' p o md lc n < 0 := by
  rw [cmpW_lt] at h ⊢
  omega
theorem cmpW_tra {p o md lc p' o' md' lc' p2 o2 md2 lc2 : Int} {n n' n2 : Nat} (h : cmpW p o md lc n p' o' md' lc' n' < 0) (k : cmpW p' o' md' lc' n' p2 o2 md2 lc2 n2 < 0) : cmpW p o md lc n p2 o2 md2 lc2 n2 < 0 := by
  rw [cmpW_lt] at h k ⊢
  omega
theorem cmpW_irr (p o md lc : Int) (n : Nat) : ¬ cmpW p o md lc n p o md lc n < 0 := by
  rw [cmpW_lt]
  omega

end Go.Proofs.YtjampcfikfafkaaGreat
