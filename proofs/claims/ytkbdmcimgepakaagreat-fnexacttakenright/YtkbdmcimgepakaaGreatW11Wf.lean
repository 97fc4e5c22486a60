/- What is proved here: what the fault of a wire is, in the program and in the model, for every wire of at most 1048576 bytes each. -/
import Derived.Test.YtkbdmcimgepakaaGreatNumLib
namespace Go.Proofs.YtkbdmcimgepakaaGreat
open Go.RowKit
set_option linter.unusedVariables false
set_option linter.unusedSimpArgs false

/-- The fault of a wire. -/
def wF (E T : Int) (n m : Nat) : Int := if E < 0 ∨ 1000 < E then 3 else if 2000 < n ∨ 2000 < m then 2 else if T < 0 ∨ (n : Int) < T then 3 else 0

theorem wF_zero {E T : Int} {n m : Nat} (h : wF E T n m = 0) : (0 ≤ E ∧ E ≤ 1000) ∧ (n ≤ 2000 ∧ m ≤ 2000) ∧ 0 ≤ T ∧ T ≤ (n : Int) := by
  unfold wF at h
  split at h
  · omega
  · split at h
    · omega
    · split at h <;> omega

theorem place_yes (t : Int) (a : Option Addr) (n c : Nat) (w : World) (h : 0 ≤ t ∧ t ≤ (n : Int)) (hn : n ≤ 1048576) : Calls Tryz.prog 100 #[.int .i64 t, .slice a n c] w fun e w' => e = .returned (.bool true) ∧ w' = w := by
  obtain ⟨h1, h2⟩ := h
  go_enter Tryz.func100, Tryz.ntmps100
  go_wp2
  go_ret
  exact ⟨by simp, rfl⟩

theorem place_no (t : Int) (a : Option Addr) (n c : Nat) (w : World) (h : t < 0 ∨ (n : Int) < t) (hn : n ≤ 1048576) : Calls Tryz.prog 100 #[.int .i64 t, .slice a n c] w fun e w' => e = .returned (.bool false) ∧ w' = w := by
  by_cases h1 : 0 ≤ t
  · have h2 : (n : Int) < t := by omega
    go_enter Tryz.func100, Tryz.ntmps100
    go_wp2
    go_ret
    exact ⟨by simp; omega, rfl⟩
  · go_enter Tryz.func100, Tryz.ntmps100
    go_wp2
    go_ret
    exact ⟨rfl, rfl⟩

set_option maxHeartbeats 800000 in
theorem implWF (E T : Int) (a b : Option Addr) (n c m d : Nat) (w : World) (hn1 : n ≤ 1048576) (hm1 : m ≤ 1048576) :
    Calls Tryz.prog 64 #[.agg #[.int .i64 E, .slice a n c, .int .i64 T, .slice b m d]] w fun e w' => e = .returned (.int .i64 (wF E T n m)) ∧ New w w' := by
  have hw := (New.refl w).alloc (.cells #[.int .i64 E, .slice a n c, .int .i64 T, .slice b m d] 91)
  by_cases h1 : E < 0
  · have hf : Hid (wF E T n m = 3) := by unfold wF Hid; rw [if_pos (Or.inl h1)]
    go_enter Tryz.func64, Tryz.ntmps64
    go_wp2
    go_ret
    exact ⟨ret_i64 hf.out.symm, hw⟩
  · by_cases h2 : 1000 < E
    · have hf : Hid (wF E T n m = 3) := by unfold wF Hid; rw [if_pos (Or.inr h2)]
      go_enter Tryz.func64, Tryz.ntmps64
      go_wp2
      go_ret
      exact ⟨ret_i64 hf.out.symm, hw⟩
    · have h12 : ¬ (E < 0 ∨ 1000 < E) := by omega
      have H12 : Hid (¬ (E < 0 ∨ 1000 < E)) := h12
      clear h12
      by_cases h3 : (2000 : Int) < (n : Int)
      · have hf : Hid (wF E T n m = 2) := by unfold wF Hid; rw [if_neg H12.out, if_pos (Or.inl (by omega))]
        go_enter Tryz.func64, Tryz.ntmps64
        go_wp2
        go_ret
        exact ⟨ret_i64 hf.out.symm, hw⟩
      · by_cases h4 : (2000 : Int) < (m : Int)
        · have hf : Hid (wF E T n m = 2) := by unfold wF Hid; rw [if_neg H12.out, if_pos (Or.inr (by omega))]
          go_enter Tryz.func64, Tryz.ntmps64
          go_wp2
          go_ret
          exact ⟨ret_i64 hf.out.symm, hw⟩
        · by_cases h5 : T < 0 ∨ (n : Int) < T
          · have hf : Hid (wF E T n m = 3) := by unfold wF Hid; rw [if_neg H12.out, if_neg (by omega), if_pos h5]
            go_enter Tryz.func64, Tryz.ntmps64
            go_wp2_with fail
            refine (place_no T a n c _ h5 hn1).mono ?_
            rintro e w1 ⟨rfl, rfl⟩
            go_wp2
            go_ret
            exact ⟨ret_i64 hf.out.symm, hw⟩
          · have hf : Hid (wF E T n m = 0) := by unfold wF Hid; rw [if_neg H12.out, if_neg (by omega), if_neg h5]
            have h6 : 0 ≤ T ∧ T ≤ (n : Int) := by omega
            go_enter Tryz.func64, Tryz.ntmps64
            go_wp2_with fail
            refine (place_yes T a n c _ h6 hn1).mono ?_
            rintro e w1 ⟨rfl, rfl⟩
            go_wp2
            go_ret
            exact ⟨ret_i64 hf.out.symm, hw⟩

set_option maxHeartbeats 800000 in
theorem specWF (E T : Int) (a b : Option Addr) (n c m d : Nat) (w : World) (hn1 : n ≤ 1048576) (hm1 : m ≤ 1048576) :
    Calls Tryz.prog 52 #[.agg #[.int .i64 E, .slice a n c, .int .i64 T, .slice b m d]] w fun e w' => e = .returned (.int .i64 (wF E T n m)) ∧ New w w' := by
  have hw := (New.refl w).alloc (.cells #[.int .i64 E, .slice a n c, .int .i64 T, .slice b m d] 91)
  have b0 := Blk.mk w w.heap.size 91 #[.int .i64 E, .slice a n c, .int .i64 T, .slice b m d] rfl
  have c0 := b0.cells
  by_cases h1 : E < 0 ∨ 1000 < E
  · have hf : Hid (wF E T n m = 3) := by unfold wF Hid; rw [if_pos h1]
    go_enter Tryz.func52, Tryz.ntmps52
    go_wp2_with fail
    refine (in_no E 0 1000 _ h1).mono ?_
    rintro e w1 ⟨rfl, rfl⟩
    go_wp2
    go_ret
    exact ⟨ret_i64 hf.out.symm, hw⟩
  · have h1' : 0 ≤ E ∧ E ≤ 1000 := by omega
    by_cases h3 : (2000 : Int) < (n : Int)
    · have hf : Hid (wF E T n m = 2) := by unfold wF Hid; rw [if_neg h1, if_pos (Or.inl (by omega))]
      go_enter Tryz.func52, Tryz.ntmps52
      go_wp2_with fail
      refine (in_yes E 0 1000 _ h1').mono ?_
      rintro e w1 ⟨rfl, rfl⟩
      go_wp2
      go_ret
      exact ⟨ret_i64 hf.out.symm, hw⟩
    · by_cases h4 : (2000 : Int) < (m : Int)
      · have hf : Hid (wF E T n m = 2) := by unfold wF Hid; rw [if_neg h1, if_pos (Or.inr (by omega))]
        go_enter Tryz.func52, Tryz.ntmps52
        go_wp2_with fail
        refine (in_yes E 0 1000 _ h1').mono ?_
        rintro e w1 ⟨rfl, rfl⟩
        go_wp2
        go_ret
        exact ⟨ret_i64 hf.out.symm, hw⟩
      · by_cases h5 : T < 0 ∨ (n : Int) < T
        · have hf : Hid (wF E T n m = 3) := by unfold wF Hid; rw [if_neg h1, if_neg (by omega), if_pos h5]
          go_enter Tryz.func52, Tryz.ntmps52
          go_wp2_with fail
          refine (in_yes E 0 1000 _ h1').mono ?_
          rintro e w1 ⟨rfl, rfl⟩
          go_wp2_with fail
          refine (in_no T 0 n _ h5).mono ?_
          rintro e w1 ⟨rfl, rfl⟩
          go_wp2
          go_ret
          exact ⟨ret_i64 hf.out.symm, hw⟩
        · have hf : Hid (wF E T n m = 0) := by unfold wF Hid; rw [if_neg h1, if_neg (by omega), if_neg h5]
          have h6 : 0 ≤ T ∧ T ≤ (n : Int) := by omega
          go_enter Tryz.func52, Tryz.ntmps52
          go_wp2_with fail
          refine (in_yes E 0 1000 _ h1').mono ?_
          rintro e w1 ⟨rfl, rfl⟩
          go_wp2_with fail
          refine (in_yes T 0 n _ h6).mono ?_
          rintro e w1 ⟨rfl, rfl⟩
          go_wp2
          go_ret
          exact ⟨ret_i64 hf.out.symm, hw⟩

end Go.Proofs.YtkbdmcimgepakaaGreat
