/- What is proved here: what the copying, measuring, comparing and judging of a frame answer, for every frame whose body has at most 1048576 bytes. -/
import Derived.Test.YtljkcijakdhdiaaNumLib
namespace Go.Proofs.Ytljkcijakdhdiaa
open Go.RowKit

/-- The fault of a frame. -/
def ff (k : Int) (n : Nat) : Int := if k < 1 ∨ 4 < k then 3 else if 120 < n then 2 else 0

theorem specFF (k : Int) (a : Option Addr) (n c : Nat) (w : World) (hm : n ≤ 1048576) : Calls Try.prog 39 #[.agg #[.int .i64 k, .slice a n c]] w fun e w' => e = .returned (.int .i64 (ff k n)) ∧ New w w' := by
  by_cases hk : k < 1 ∨ 4 < k
  · have hf : Hid (ff k n = 3) := by unfold ff Hid; rw [if_pos hk]
    go_enter Try.func39, Try.ntmps39
    go_wp2_with fail
    refine (in_no _ _ _ _ hk).mono ?_
    rintro e w1 ⟨rfl, rfl⟩
    go_wp2
    go_ret
    exact ⟨ret_i64 hf.out.symm, (New.refl _).alloc _⟩
  · by_cases hn : 120 < n
    · have hf : Hid (ff k n = 2) := by unfold ff Hid; rw [if_neg hk, if_pos hn]
      go_enter Try.func39, Try.ntmps39
      go_wp2_with fail
      refine (in_yes _ _ _ _ (by omega)).mono ?_
      rintro e w1 ⟨rfl, rfl⟩
      go_wp2
      go_ret
      exact ⟨ret_i64 hf.out.symm, (New.refl _).alloc _⟩
    · have hf : Hid (ff k n = 0) := by unfold ff Hid; rw [if_neg hk, if_neg hn]
      go_enter Try.func39, Try.ntmps39
      go_wp2_with fail
      refine (in_yes _ _ _ _ (by omega)).mono ?_
      rintro e w1 ⟨rfl, rfl⟩
      go_wp2
      go_ret
      exact ⟨ret_i64 hf.out.symm, (New.refl _).alloc _⟩

theorem isKind_yes (v : Int) (w : World) (h : 1 ≤ v ∧ v ≤ 4) : Calls Try.prog 56 #[.int .i64 v] w fun e w' => e = .returned (.bool true) ∧ w' = w := by
  obtain ⟨h1, h2⟩ := h
  go_enter Try.func56, Try.ntmps56
  go_wp2
  go_ret
  exact ⟨by simp, rfl⟩

theorem isKind_no (v : Int) (w : World) (h : v < 1 ∨ 4 < v) : Calls Try.prog 56 #[.int .i64 v] w fun e w' => e = .returned (.bool false) ∧ w' = w := by
  by_cases h1 : 1 ≤ v
  · have h2 : 4 < v := by omega
    go_enter Try.func56, Try.ntmps56
    go_wp2
    go_ret
    exact ⟨by simp; omega, rfl⟩
  · go_enter Try.func56, Try.ntmps56
    go_wp2
    go_ret
    exact ⟨rfl, rfl⟩

theorem implFF (k : Int) (a : Option Addr) (n c : Nat) (w : World) (hm : n ≤ 1048576) : Calls Try.prog 32 #[.agg #[.int .i64 k, .slice a n c]] w fun e w' => e = .returned (.int .i64 (ff k n)) ∧ New w w' := by
  by_cases hk : k < 1 ∨ 4 < k
  · have hf : Hid (ff k n = 3) := by unfold ff Hid; rw [if_pos hk]
    go_enter Try.func32, Try.ntmps32
    go_wp2_with fail
    refine (isKind_no _ _ hk).mono ?_
    rintro e w1 ⟨rfl, rfl⟩
    go_wp2
    go_ret
    exact ⟨ret_i64 hf.out.symm, (New.refl _).alloc _⟩
  · by_cases hn : 120 < n
    · have hf : Hid (ff k n = 2) := by unfold ff Hid; rw [if_neg hk, if_pos hn]
      go_enter Try.func32, Try.ntmps32
      go_wp2_with fail
      refine (isKind_yes _ _ (by omega)).mono ?_
      rintro e w1 ⟨rfl, rfl⟩
      go_wp2
      go_ret
      exact ⟨ret_i64 hf.out.symm, (New.refl _).alloc _⟩
    · have hf : Hid (ff k n = 0) := by unfold ff Hid; rw [if_neg hk, if_neg hn]
      go_enter Try.func32, Try.ntmps32
      go_wp2_with fail
      refine (isKind_yes _ _ (by omega)).mono ?_
      rintro e w1 ⟨rfl, rfl⟩
      go_wp2
      go_ret
      exact ⟨ret_i64 hf.out.symm, (New.refl _).alloc _⟩

end Go.Proofs.Ytljkcijakdhdiaa
