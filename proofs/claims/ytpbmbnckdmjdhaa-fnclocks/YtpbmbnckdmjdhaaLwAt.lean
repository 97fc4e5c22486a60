/- What is proved here: what the choice of a number by the laws answers. -/
import Derived.Test.YtpbmbnckdmjdhaaDraw
namespace Go.Proofs.Ytpbmbnckdmjdhaa
open Go.RowKit

set_option maxHeartbeats 1600000 in
theorem lwAt_any (a : Option Addr) (n c t : Nat) (m : Int) (zs : List Int) (w : World) (h : BsAt w a zs) (hn : zs.length = n) (hm : n ≤ 2097152) (ht : t ≤ 100000) (h1 : 1 ≤ m) (hmm : m ≤ 1000000) :
    Calls Try.prog 14 #[.slice a n c, .int .i64 t, .int .i64 m] w fun e w' => ∃ r : Int, e = .returned (.int .i64 r) ∧ 0 ≤ r ∧ r < m ∧ New w w' := by
  by_cases hm1 : m = 1
  · subst hm1
    go_enter Try.func14, Try.ntmps14
    go_wp2
    go_ret
    exact ⟨0, rfl, by omega, by omega, New.refl _⟩
  have h2 : ¬ m ≤ 1 := by omega
  by_cases h0 : n = 0
  · subst h0
    have HD : Hid (Dr m ((t : Int) * 7 % m)) := Dr.of_mod (by omega)
    clear hm1
    go_enter Try.func14, Try.ntmps14
    go_wp2
    go_ret
    exact ⟨_, rfl, HD.out.1, HD.out.2.1 h1, New.refl _⟩
  obtain ⟨i, hi⟩ : ∃ i : Nat, i = t % n := ⟨_, rfl⟩
  obtain ⟨q, hq⟩ : ∃ q : Nat, q = t / n := ⟨_, rfl⟩
  have hmod : (t : Int) % (n : Int) = (i : Int) := by rw [mod_nat, hi]
  have hdiv : (t : Int) / (n : Int) = (q : Int) := by rw [hq]; omega
  have hlt : i < n := by rw [hi]; exact Nat.mod_lt t (show n > 0 by omega)
  have hdl : q ≤ t := by rw [hq]; exact Nat.div_le_self t n
  have hdv : (t : Int).tdiv (n : Int) = (q : Int) := by rw [Int.tdiv_eq_ediv_of_nonneg (by omega)]; exact hdiv
  have hmv : (t : Int).tmod (n : Int) = (i : Int) := by rw [Int.tmod_eq_emod_of_nonneg (by omega)]; exact hmod
  obtain ⟨b, off, z, rfl, hz, hc, hz0, hz1⟩ := h.at i (by omega)
  have hne0 : ((n : Int) == 0) = false := by simp; omega
  have hw0 : IntKind.i64.wrap z = z := wrap_in (by omega)
  have hw1 : IntKind.i64.wrap ((q : Int) * 3) = (q : Int) * 3 := wrap_in (by omega)
  have hw2 : IntKind.i64.wrap (z + (q : Int) * 3) = z + (q : Int) * 3 := wrap_in (by omega)
  have hw3 : IntKind.i64.wrap (i : Int) = (i : Int) := wrap_in (by omega)
  have hw4 : IntKind.i64.wrap (q : Int) = (q : Int) := wrap_in (by omega)
  clear hi hq hm1
  by_cases hm2 : 200 < m
  · obtain ⟨i2, hi2⟩ : ∃ i2 : Nat, i2 = (t + 1) % n := ⟨_, rfl⟩
    have hmod2 : ((t : Int) + 1) % (n : Int) = (i2 : Int) := by rw [hi2, ← mod_nat]; simp
    have hlt2 : i2 < n := by rw [hi2]; exact Nat.mod_lt _ (show n > 0 by omega)
    obtain ⟨b2, off2, z2, e2, hz2, hc2, hz20, hz21⟩ := h.at i2 (by omega)
    simp only [Option.some.injEq, Addr.mk.injEq, and_true] at e2
    obtain ⟨rfl, rfl⟩ := e2
    have HD : Hid (Dr m (((z + (q : Int) * 3) * 251 + z2) % m)) := Dr.of_mod (by omega)
    have hv0 : 0 ≤ z + (q : Int) * 3 := by omega
    have hv1 : z + (q : Int) * 3 ≤ 100000000 := by omega
    clear hi2
    go_enter Try.func14, Try.ntmps14
    go_wp2
    go_quiet (fail)
    go_wp2
    go_ret
    exact ⟨_, rfl, HD.out.1, HD.out.2.1 h1, (New.refl _).drewN _⟩
  · have HD : Hid (Dr m ((z + (q : Int) * 3) % m)) := Dr.of_mod (by omega)
    have hv0 : 0 ≤ z + (q : Int) * 3 := by omega
    go_enter Try.func14, Try.ntmps14
    go_wp2
    go_quiet (fail)
    go_wp2
    go_ret
    exact ⟨_, rfl, HD.out.1, HD.out.2.1 h1, (New.refl _).drewN _⟩

end Go.Proofs.Ytpbmbnckdmjdhaa
