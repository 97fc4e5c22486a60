/- What is proved here: what the judging of a session and of a configuration answers, in the program and in the model. No condition. -/
import Derived.Test.YtdknalegmlpimaaS5Lib
namespace Go.Proofs.Ytdknalegmlpimaa
open Go.RowKit
set_option linter.unusedVariables false

set_option maxHeartbeats 1600000 in
theorem implCF (sa si ho : Int) (w : World) : Calls Try.prog 35 #[.agg #[.int .i64 sa, .int .i64 si, .int .i64 ho]] w fun e w' => e = .returned (.int .i64 (cf sa si ho)) ∧ New w w' := by
  by_cases g0 : 1 ≤ sa ∧ sa ≤ 65535
  case neg =>
    have hx : cf sa si ho = 3 := if_neg (fun k => g0 k.1)
    go_enter Try.func35, Try.ntmps35
    go_wp2_with fail
    refine (sys5_no _ _ g0).mono ?_
    rintro e w1 ⟨rfl, rfl⟩
    go_wp2
    go_ret
    exact ⟨ret_i64 (by first | exact hx.symm | rfl), (New.refl w).alloc _⟩
  by_cases g1 : 1 ≤ si ∧ si ≤ 65535
  case neg =>
    have hx : cf sa si ho = 3 := if_neg (fun k => g1 k.2.1)
    go_enter Try.func35, Try.ntmps35
    go_wp2_with fail
    refine (sys5_yes _ _ g0).mono ?_
    rintro e w1 ⟨rfl, rfl⟩
    go_wp2_with fail
    refine (id5_no _ _ g1).mono ?_
    rintro e w1 ⟨rfl, rfl⟩
    go_wp2
    go_ret
    exact ⟨ret_i64 (by first | exact hx.symm | rfl), (New.refl w).alloc _⟩
  by_cases g2 : HoP ho
  case neg =>
    have hx : cf sa si ho = 3 := if_neg (fun k => g2 k.2.2)
    go_enter Try.func35, Try.ntmps35
    go_wp2_with fail
    refine (sys5_yes _ _ g0).mono ?_
    rintro e w1 ⟨rfl, rfl⟩
    go_wp2_with fail
    refine (id5_yes _ _ g1).mono ?_
    rintro e w1 ⟨rfl, rfl⟩
    go_wp2_with fail
    refine (hold5_no _ _ g2).mono ?_
    rintro e w1 ⟨rfl, rfl⟩
    go_wp2
    go_ret
    exact ⟨ret_i64 (by first | exact hx.symm | rfl), (New.refl w).alloc _⟩
  have hx : cf sa si ho = 0 := if_pos ⟨g0, g1, g2⟩
  go_enter Try.func35, Try.ntmps35
  go_wp2_with fail
  refine (sys5_yes _ _ g0).mono ?_
  rintro e w1 ⟨rfl, rfl⟩
  go_wp2_with fail
  refine (id5_yes _ _ g1).mono ?_
  rintro e w1 ⟨rfl, rfl⟩
  go_wp2_with fail
  refine (hold5_yes _ _ g2).mono ?_
  rintro e w1 ⟨rfl, rfl⟩
  go_wp2
  go_ret
  exact ⟨ret_i64 (by first | exact hx.symm | rfl), (New.refl w).alloc _⟩

set_option maxHeartbeats 1600000 in
theorem specCF (sa si ho : Int) (w : World) : Calls Try.prog 31 #[.agg #[.int .i64 sa, .int .i64 si, .int .i64 ho]] w fun e w' => e = .returned (.int .i64 (cf sa si ho)) ∧ New w w' := by
  by_cases g0 : 1 ≤ sa ∧ sa ≤ 65535
  case neg =>
    have hx : cf sa si ho = 3 := if_neg (fun k => g0 k.1)
    go_enter Try.func31, Try.ntmps31
    go_wp2_with fail
    refine (in5_no _ _ _ _ g0).mono ?_
    rintro e w1 ⟨rfl, rfl⟩
    go_wp2
    go_ret
    exact ⟨ret_i64 (by first | exact hx.symm | rfl), (New.refl w).alloc _⟩
  by_cases g1 : 1 ≤ si ∧ si ≤ 65535
  case neg =>
    have hx : cf sa si ho = 3 := if_neg (fun k => g1 k.2.1)
    go_enter Try.func31, Try.ntmps31
    go_wp2_with fail
    refine (in_yes _ _ _ _ g0).mono ?_
    rintro e w1 ⟨rfl, rfl⟩
    go_wp2_with fail
    refine (in5_no _ _ _ _ g1).mono ?_
    rintro e w1 ⟨rfl, rfl⟩
    go_wp2
    go_ret
    exact ⟨ret_i64 (by first | exact hx.symm | rfl), (New.refl w).alloc _⟩
  by_cases g2 : HoP ho
  case neg =>
    have hx : cf sa si ho = 3 := if_neg (fun k => g2 k.2.2)
    go_enter Try.func31, Try.ntmps31
    go_wp2_with fail
    refine (in_yes _ _ _ _ g0).mono ?_
    rintro e w1 ⟨rfl, rfl⟩
    go_wp2_with fail
    refine (in_yes _ _ _ _ g1).mono ?_
    rintro e w1 ⟨rfl, rfl⟩
    go_wp2_with fail
    refine (holdS5_no _ _ g2).mono ?_
    rintro e w1 ⟨rfl, rfl⟩
    go_wp2
    go_ret
    exact ⟨ret_i64 (by first | exact hx.symm | rfl), (New.refl w).alloc _⟩
  have hx : cf sa si ho = 0 := if_pos ⟨g0, g1, g2⟩
  go_enter Try.func31, Try.ntmps31
  go_wp2_with fail
  refine (in_yes _ _ _ _ g0).mono ?_
  rintro e w1 ⟨rfl, rfl⟩
  go_wp2_with fail
  refine (in_yes _ _ _ _ g1).mono ?_
  rintro e w1 ⟨rfl, rfl⟩
  go_wp2_with fail
  refine (holdS5_yes _ _ g2).mono ?_
  rintro e w1 ⟨rfl, rfl⟩
  go_wp2
  go_ret
  exact ⟨ret_i64 (by first | exact hx.symm | rfl), (New.refl w).alloc _⟩

end Go.Proofs.Ytdknalegmlpimaa
