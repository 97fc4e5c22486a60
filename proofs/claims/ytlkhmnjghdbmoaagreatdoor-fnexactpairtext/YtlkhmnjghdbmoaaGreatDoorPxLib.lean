/- What is proved here: what the judging of a prefix answers, in the program and in its model, at every two numbers. No condition. -/
import Derived.Test.YtlkhmnjghdbmoaaGreatDoorNumLib
import Derived.Test.YtlkhmnjghdbmoaaGreatDoorPxMath
namespace Go.Proofs.YtlkhmnjghdbmoaaGreatDoor
open Go.RowKit

theorem ret_u16 {a b : Int} (h : a = b) : Ending.returned (.int .u16 a) = .returned (.int .u16 b) := by rw [h]
theorem ret_bool {a b : Bool} (h : a = b) : Ending.returned (.bool a) = .returned (.bool b) := by rw [h]

theorem isAddr_yes (v : Int) (w : World) (h : 0 ≤ v ∧ v ≤ 65535) : Calls Tryz.prog 79 #[.int .i64 v] w fun e w' => e = .returned (.bool true) ∧ w' = w := by
  obtain ⟨h1, h2⟩ := h
  go_enter Tryz.func79, Tryz.ntmps79
  go_wp2
  go_ret
  exact ⟨by simp, rfl⟩

theorem isAddr_no (v : Int) (w : World) (h : v < 0 ∨ 65535 < v) : Calls Tryz.prog 79 #[.int .i64 v] w fun e w' => e = .returned (.bool false) ∧ w' = w := by
  by_cases h1 : 0 ≤ v
  · have h2 : 65535 < v := by omega
    go_enter Tryz.func79, Tryz.ntmps79
    go_wp2
    go_ret
    exact ⟨by simp; omega, rfl⟩
  · go_enter Tryz.func79, Tryz.ntmps79
    go_wp2
    go_ret
    exact ⟨rfl, rfl⟩

theorem mask_small : ∀ k : Nat, k < 17 → 65535 * 2 ^ k % 65536 = 65536 - 2 ^ k := by decide
theorem mask_eq {l : Int} (h0 : 0 ≤ l) (h1 : l ≤ 16) : IntKind.u16.wrap (65535 * 2 ^ (16 - l).toNat) = 65536 - szp l := by
  obtain ⟨k, hk, rfl⟩ := len_cases h0 h1
  have hp := pow_bd k hk
  have hm := mask_small k (by omega)
  rw [szp_nat k hk, IntKind.wrap_u16, show (16 - (16 - (k : Int))).toNat = k by omega]
  have : (65535 * 2 ^ k : Int) = ((65535 * 2 ^ k : Nat) : Int) := by simp
  rw [this]
  omega

theorem maskOf_any (l : Int) (w : World) (h0 : 0 ≤ l) (h1 : l ≤ 16) : Calls Tryz.prog 132 #[.int .i64 l] w fun e w' => e = .returned (.int .u16 (65536 - szp l)) ∧ w' = w := by
  have hm := mask_eq h0 h1
  go_enter Tryz.func132, Tryz.ntmps132
  go_wp2
  go_ret
  exact ⟨rfl, rfl⟩

theorem implPF (a l : Int) (w : World) : Calls Tryz.prog 122 #[.agg #[.int .i64 a, .int .i64 l]] w fun e w' => e = .returned (.int .i64 (pf a l)) ∧ New w w' := by
  by_cases ha : a < 0 ∨ 65535 < a
  · have hf : Hid (pf a l = 3) := by unfold pf Hid; rw [if_pos (by omega)]
    go_enter Tryz.func122, Tryz.ntmps122
    go_wp2_with fail
    refine (isAddr_no _ _ ha).mono ?_
    rintro e w1 ⟨rfl, rfl⟩
    go_wp2
    go_ret
    exact ⟨ret_i64 hf.out.symm, (New.refl _).alloc _⟩
  · have ha0 : 0 ≤ a := by omega
    have ha1 : a ≤ 65535 := by omega
    by_cases hl0 : l < 0
    · have hf : Hid (pf a l = 3) := by unfold pf Hid; rw [if_pos (by omega)]
      go_enter Tryz.func122, Tryz.ntmps122
      go_wp2_with fail
      refine (isAddr_yes _ _ ⟨ha0, ha1⟩).mono ?_
      rintro e w1 ⟨rfl, rfl⟩
      go_wp2
      go_ret
      exact ⟨ret_i64 hf.out.symm, (New.refl _).alloc _⟩
    · by_cases hl1 : 16 < l
      · have hf : Hid (pf a l = 3) := by unfold pf Hid; rw [if_pos (by omega)]
        go_enter Tryz.func122, Tryz.ntmps122
        go_wp2_with fail
        refine (isAddr_yes _ _ ⟨ha0, ha1⟩).mono ?_
        rintro e w1 ⟨rfl, rfl⟩
        go_wp2
        go_ret
        exact ⟨ret_i64 hf.out.symm, (New.refl _).alloc _⟩
      · have hl2 : 0 ≤ l := by omega
        have hl3 : l ≤ 16 := by omega
        have hwa : IntKind.u16.wrap a = a := by rw [IntKind.wrap_u16]; omega
        have hlow := bits_low16 ha0 ha1 hl2 hl3
        by_cases hz : a % szp l = 0
        · have hf : Hid (pf a l = 0) := by unfold pf Hid; rw [if_neg (by omega), if_neg (by omega)]
          go_enter Tryz.func122, Tryz.ntmps122
          go_wp2_with fail
          refine (isAddr_yes _ _ ⟨ha0, ha1⟩).mono ?_
          rintro e w1 ⟨rfl, rfl⟩
          go_wp2_with fail
          go_quiet ((go_at_call 132; exact Calls.quiet_of_same (maskOf_any l _ hl2 hl3)))
          go_wp2
          go_ret
          exact ⟨ret_i64 hf.out.symm, ((New.refl _).alloc _).drewN _⟩
        · have hf : Hid (pf a l = 1) := by unfold pf Hid; rw [if_neg (by omega), if_pos (by omega)]
          go_enter Tryz.func122, Tryz.ntmps122
          go_wp2_with fail
          refine (isAddr_yes _ _ ⟨ha0, ha1⟩).mono ?_
          rintro e w1 ⟨rfl, rfl⟩
          go_wp2_with fail
          go_quiet ((go_at_call 132; exact Calls.quiet_of_same (maskOf_any l _ hl2 hl3)))
          go_wp2
          go_ret
          exact ⟨ret_i64 hf.out.symm, ((New.refl _).alloc _).drewN _⟩

theorem rest_small : ∀ k : Nat, k < 17 → (2 ^ k : Nat) ≤ 65536 := by decide

theorem l2Rest_any (l : Int) (w : World) (h0 : 0 ≤ l) (h1 : l ≤ 16) : Calls Tryz.prog 131 #[.int .i64 l] w fun e w' => e = .returned (.int .i64 (szp l - 1)) ∧ w' = w := by
  have hb := szp_bd h0 h1
  have hm : (2 ^ (16 - l).toNat : Int) = szp l := rfl
  go_enter Tryz.func131, Tryz.ntmps131
  go_wp2
  go_ret
  exact ⟨rfl, rfl⟩

theorem l2Addr_yes (v : Int) (w : World) (h : 0 ≤ v ∧ v ≤ 65535) : Calls Tryz.prog 67 #[.int .i64 v] w fun e w' => e = .returned (.bool true) ∧ w' = w := by
  go_enter Tryz.func67, Tryz.ntmps67
  go_wp2_with fail
  refine (in_yes _ _ _ _ h).mono ?_
  rintro e w1 ⟨rfl, rfl⟩
  go_wp2
  go_ret
  exact ⟨rfl, rfl⟩

theorem l2Addr_no (v : Int) (w : World) (h : v < 0 ∨ 65535 < v) : Calls Tryz.prog 67 #[.int .i64 v] w fun e w' => e = .returned (.bool false) ∧ w' = w := by
  go_enter Tryz.func67, Tryz.ntmps67
  go_wp2_with fail
  refine (in_no _ _ _ _ h).mono ?_
  rintro e w1 ⟨rfl, rfl⟩
  go_wp2
  go_ret
  exact ⟨rfl, rfl⟩

theorem specPF (a l : Int) (w : World) : Calls Tryz.prog 119 #[.agg #[.int .i64 a, .int .i64 l]] w fun e w' => e = .returned (.int .i64 (pf a l)) ∧ New w w' := by
  by_cases ha : a < 0 ∨ 65535 < a
  · have hf : Hid (pf a l = 3) := by unfold pf Hid; rw [if_pos (by omega)]
    go_enter Tryz.func119, Tryz.ntmps119
    go_wp2_with fail
    refine (l2Addr_no _ _ ha).mono ?_
    rintro e w1 ⟨rfl, rfl⟩
    go_wp2
    go_ret
    exact ⟨ret_i64 hf.out.symm, (New.refl _).alloc _⟩
  · have ha0 : 0 ≤ a := by omega
    have ha1 : a ≤ 65535 := by omega
    by_cases hl : l < 0 ∨ 16 < l
    · have hf : Hid (pf a l = 3) := by unfold pf Hid; rw [if_pos (by omega)]
      go_enter Tryz.func119, Tryz.ntmps119
      go_wp2_with fail
      refine (l2Addr_yes _ _ ⟨ha0, ha1⟩).mono ?_
      rintro e w1 ⟨rfl, rfl⟩
      go_wp2_with fail
      refine (in_no _ _ _ _ hl).mono ?_
      rintro e w1 ⟨rfl, rfl⟩
      go_wp2
      go_ret
      exact ⟨ret_i64 hf.out.symm, (New.refl _).alloc _⟩
    · have hl2 : 0 ≤ l := by omega
      have hl3 : l ≤ 16 := by omega
      have hlow := bits_low64 ha0 ha1 hl2 hl3
      by_cases hz : a % szp l = 0
      · have hf : Hid (pf a l = 0) := by unfold pf Hid; rw [if_neg (by omega), if_neg (by omega)]
        go_enter Tryz.func119, Tryz.ntmps119
        go_wp2_with fail
        refine (l2Addr_yes _ _ ⟨ha0, ha1⟩).mono ?_
        rintro e w1 ⟨rfl, rfl⟩
        go_wp2_with fail
        refine (in_yes _ _ _ _ ⟨hl2, hl3⟩).mono ?_
        rintro e w1 ⟨rfl, rfl⟩
        go_wp2_with fail
        go_quiet ((go_at_call 131; exact Calls.quiet_of_same (l2Rest_any l _ hl2 hl3)))
        go_wp2
        go_ret
        exact ⟨ret_i64 hf.out.symm, ((New.refl _).alloc _).drewN _⟩
      · have hf : Hid (pf a l = 1) := by unfold pf Hid; rw [if_neg (by omega), if_pos (by omega)]
        go_enter Tryz.func119, Tryz.ntmps119
        go_wp2_with fail
        refine (l2Addr_yes _ _ ⟨ha0, ha1⟩).mono ?_
        rintro e w1 ⟨rfl, rfl⟩
        go_wp2_with fail
        refine (in_yes _ _ _ _ ⟨hl2, hl3⟩).mono ?_
        rintro e w1 ⟨rfl, rfl⟩
        go_wp2_with fail
        go_quiet ((go_at_call 131; exact Calls.quiet_of_same (l2Rest_any l _ hl2 hl3)))
        go_wp2
        go_ret
        exact ⟨ret_i64 hf.out.symm, ((New.refl _).alloc _).drewN _⟩

end Go.Proofs.YtlkhmnjghdbmoaaGreatDoor
