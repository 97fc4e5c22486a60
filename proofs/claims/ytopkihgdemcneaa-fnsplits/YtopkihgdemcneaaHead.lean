/- What is proved here: what the looks at the head of a frame and the taking of one frame answer, for every list of bytes of at most 400. -/
import Derived.Test.YtopkihgdemcneaaFrsLib
namespace Go.Proofs.Ytopkihgdemcneaa
open Go.RowKit

theorem getD_of {zs : List Int} {i : Nat} {z : Int} (h : zs[i]? = some z) : zs.getD i 0 = z := by simp [List.getD, h]

set_option maxHeartbeats 1600000 in
theorem head_any (a : Option Addr) (n c : Nat) (zs : List Int) (w : World) (h : BsAt w a zs) (hn : zs.length = n) (hm : n ≤ 1048576) :
    Calls Try.prog 27 #[.slice a n c] w fun e w' => e = .returned (.int .i64 (headM zs)) ∧ w' = w := by
  by_cases h0 : n = 0
  · have HF : Hid (headM zs = 0) := by unfold Hid headM; rw [hn]; simp [h0]
    subst h0
    clear hn
    go_enter Try.func27, Try.ntmps27
    go_wp2
    go_ret
    exact ⟨ret_i64 HF.out.symm, rfl⟩
  obtain ⟨b, off, z0, rfl, hz0, c0, y0, y0'⟩ := h.at 0 (by omega)
  rw [Nat.add_zero] at c0
  have g0 := getD_of hz0
  by_cases e0 : z0 = 255
  case neg =>
    have HF : Hid (headM zs = 1) := by unfold Hid headM; rw [hn, g0, if_pos ⟨by omega, e0⟩]
    have t0 : (z0 != 255) = true := by simp [e0]
    have p0 : (0 : Int) < (n : Int) := by omega
    clear hn g0 hz0 e0
    go_enter Try.func27, Try.ntmps27
    go_wp2
    go_ret
    exact ⟨ret_i64 HF.out.symm, rfl⟩
  have t0 : (z0 != 255) = false := by simp [e0]
  by_cases h1 : n = 1
  · have HF : Hid (headM zs = 0) := by unfold Hid headM; rw [hn, g0]; simp [h1, e0]
    subst h1
    clear hn g0 hz0 e0
    go_enter Try.func27, Try.ntmps27
    go_wp2
    go_ret
    exact ⟨ret_i64 HF.out.symm, rfl⟩
  obtain ⟨b', off', z1, e', hz1, c1, y1, y1'⟩ := h.at 1 (by omega)
  simp only [Option.some.injEq, Addr.mk.injEq, and_true] at e'
  obtain ⟨rfl, rfl⟩ := e'
  have g1 := getD_of hz1
  have p0 : (0 : Int) < (n : Int) := by omega
  have p1 : (1 : Int) < (n : Int) := by omega
  by_cases e1 : z1 = 255
  case neg =>
    have HF : Hid (headM zs = 1) := by unfold Hid headM; rw [hn, g0, g1, if_neg (by simp [e0]), if_pos ⟨by omega, e1⟩]
    have t1 : (z1 != 255) = true := by simp [e1]
    clear hn g0 hz0 e0 g1 hz1 e1
    go_enter Try.func27, Try.ntmps27
    go_wp2
    go_ret
    exact ⟨ret_i64 HF.out.symm, rfl⟩
  have t1 : (z1 != 255) = false := by simp [e1]
  by_cases h3 : n ≤ 3
  · have HF : Hid (headM zs = 0) := by
      unfold Hid headM
      rw [hn, g0, g1, if_neg (by simp [e0]), if_neg (by simp [e1]), if_neg (by omega), if_neg (by omega)]
    clear hn g0 hz0 e0 g1 hz1 e1
    go_enter Try.func27, Try.ntmps27
    go_wp2
    go_ret
    exact ⟨ret_i64 HF.out.symm, rfl⟩
  have p3 : (3 : Int) < (n : Int) := by omega
  by_cases e2 : numAt zs 2 2 < 5 ∨ 125 < numAt zs 2 2
  · have HF : Hid (headM zs = 2) := by
      unfold Hid headM
      rw [hn, g0, g1, if_neg (by simp [e0]), if_neg (by simp [e1]), if_pos ⟨by omega, e2⟩]
    have HN : Hid (zs.length = n) := hn
    clear hn g0 hz0 e0 g1 hz1 e1
    go_enter Try.func27, Try.ntmps27
    go_wp2_with fail
    refine (take_any _ n c 2 2 zs _ h HN.out hm (by omega) (by omega)).mono ?_
    rintro e w1 ⟨rfl, rfl⟩
    go_wp2_with fail
    refine (in_no _ _ _ _ e2).mono ?_
    rintro e w1 ⟨rfl, rfl⟩
    go_wp2
    go_ret
    exact ⟨ret_i64 HF.out.symm, rfl⟩
  have e2' : 5 ≤ numAt zs 2 2 ∧ numAt zs 2 2 ≤ 125 := by omega
  by_cases h4 : n = 4
  · have HF : Hid (headM zs = 0) := by
      unfold Hid headM
      rw [hn, g0, g1, if_neg (by simp [e0]), if_neg (by simp [e1]), if_neg (fun x => e2 x.2), if_neg (by omega)]
    have HN : Hid (zs.length = n) := hn
    have p4 : ¬ (4 : Int) < (n : Int) := by omega
    clear hn g0 hz0 e0 g1 hz1 e1 e2 h4
    go_enter Try.func27, Try.ntmps27
    go_wp2_with fail
    refine (take_any _ n c 2 2 zs _ h HN.out hm (by omega) (by omega)).mono ?_
    rintro e w1 ⟨rfl, rfl⟩
    go_wp2_with fail
    refine (in_yes _ _ _ _ e2').mono ?_
    rintro e w1 ⟨rfl, rfl⟩
    go_wp2
    go_ret
    exact ⟨ret_i64 HF.out.symm, rfl⟩
  obtain ⟨b', off', z4, e', hz4, c4, y4, y4'⟩ := h.at 4 (by omega)
  simp only [Option.some.injEq, Addr.mk.injEq, and_true] at e'
  obtain ⟨rfl, rfl⟩ := e'
  have g4 := getD_of hz4
  have p4 : (4 : Int) < (n : Int) := by omega
  by_cases e4 : z4 < 1 ∨ 4 < z4
  · have HF : Hid (headM zs = 3) := by
      unfold Hid headM
      rw [hn, g0, g1, g4, if_neg (by simp [e0]), if_neg (by simp [e1]), if_neg (fun x => e2 x.2), if_pos ⟨by omega, e4⟩]
    have HN : Hid (zs.length = n) := hn
    clear hn g0 hz0 e0 g1 hz1 e1 e2 h4 g4 hz4
    go_enter Try.func27, Try.ntmps27
    go_wp2_with fail
    refine (take_any _ n c 2 2 zs _ h HN.out hm (by omega) (by omega)).mono ?_
    rintro e w1 ⟨rfl, rfl⟩
    go_wp2_with fail
    refine (in_yes _ _ _ _ e2').mono ?_
    rintro e w1 ⟨rfl, rfl⟩
    go_wp2_with fail
    refine (in_no _ _ _ _ e4).mono ?_
    rintro e w1 ⟨rfl, rfl⟩
    go_wp2
    go_ret
    exact ⟨ret_i64 HF.out.symm, rfl⟩
  · have HF : Hid (headM zs = 0) := by
      unfold Hid headM
      rw [hn, g0, g1, g4, if_neg (by simp [e0]), if_neg (by simp [e1]), if_neg (fun x => e2 x.2), if_neg (fun x => e4 x.2)]
    have HN : Hid (zs.length = n) := hn
    have e4' : 1 ≤ z4 ∧ z4 ≤ 4 := by omega
    clear hn g0 hz0 e0 g1 hz1 e1 e2 h4 g4 hz4 e4
    go_enter Try.func27, Try.ntmps27
    go_wp2_with fail
    refine (take_any _ n c 2 2 zs _ h HN.out hm (by omega) (by omega)).mono ?_
    rintro e w1 ⟨rfl, rfl⟩
    go_wp2_with fail
    refine (in_yes _ _ _ _ e2').mono ?_
    rintro e w1 ⟨rfl, rfl⟩
    go_wp2_with fail
    refine (in_yes _ _ _ _ e4').mono ?_
    rintro e w1 ⟨rfl, rfl⟩
    go_wp2
    go_ret
    exact ⟨ret_i64 HF.out.symm, rfl⟩

end Go.Proofs.Ytopkihgdemcneaa
