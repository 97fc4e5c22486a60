/- What is proved here: what the asking of a prefix for an address, and of one prefix for another, answer, in the program and in its model, at all numbers. No condition. -/
import Derived.Test.YtgjdjafldogecaaPxLib
import Derived.Test.YtgjdjafldogecaaQB
import Derived.Deep.RegionWith
namespace Go.Proofs.Ytgjdjafldogecaa
open Go.RowKit Go.Sort

theorem firstBits_any (x l : Int) (w : World) (hx : 0 ≤ x) (hx1 : x ≤ 65535) (h0 : 0 ≤ l) (h1 : l ≤ 16) :
    Calls Try.prog 62 #[.int .i64 x, .int .i64 l] w fun e w' => e = .returned (.int .i64 (x - x % szp l)) ∧ w' = w := by
  have hb := szp_bd h0 h1
  have hwa : IntKind.u16.wrap x = x := by rw [IntKind.wrap_u16]; omega
  have hlow := bits_high16 hx hx1 h0 h1
  have hm0 := Int.emod_nonneg x (show szp l ≠ 0 by omega)
  have hm1 : x % szp l ≤ x := by
    have h3 := Int.mul_ediv_add_emod x (szp l)
    have h4 : 0 ≤ szp l * (x / szp l) := Int.mul_nonneg (by omega) (Int.ediv_nonneg hx (by omega))
    omega
  go_enter Try.func62, Try.ntmps62
  go_wp2_with fail
  refine (maskOf_any l _ h0 h1).mono ?_
  rintro e w1 ⟨rfl, rfl⟩
  go_wp2
  go_ret
  exact ⟨rfl, rfl⟩

theorem pf_three (a l : Int) : pf a l = 0 ∨ pf a l = 1 ∨ pf a l = 3 := by
  unfold pf
  split
  · exact .inr (.inr rfl)
  · split
    · exact .inr (.inl rfl)
    · exact .inl rfl

theorem implPF_is (a l c : Int) (w : World) (h : pf a l = c) : Calls Try.prog 69 #[.agg #[.int .i64 a, .int .i64 l]] w fun e w' => e = .returned (.int .i64 c) ∧ New w w' := h ▸ implPF a l w
theorem specPF_is (a l c : Int) (w : World) (h : pf a l = c) : Calls Try.prog 68 #[.agg #[.int .i64 a, .int .i64 l]] w fun e w' => e = .returned (.int .i64 c) ∧ New w w' := h ▸ specPF a l w

theorem l2Has_any (a l x : Int) (w : World) (hx : 0 ≤ x) (hx1 : x ≤ 65535) (h0 : 0 ≤ l) (h1 : l ≤ 16) :
    Calls Try.prog 59 #[.agg #[.int .i64 a, .int .i64 l], .int .i64 x] w fun e w' => e = .returned (.bool (decide (x - x % szp l = a))) ∧ New w w' := by
  have hw := (New.refl w).alloc (.cells #[.int .i64 a, .int .i64 l] 81)
  have hlow := bits_high64 hx hx1 h0 h1
  go_enter Try.func59, Try.ntmps59
  go_wp2_with fail
  go_quiet ((go_at_call 74; exact Calls.quiet_of_same (l2Rest_any l _ h0 h1)))
  go_wp2
  go_ret
  exact ⟨rfl, hw.drewN _⟩

end Go.Proofs.Ytgjdjafldogecaa
