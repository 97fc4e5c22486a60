/- What is proved here: what the judging of a session and of a configuration answers, in the program and in the model. No condition. -/
import Derived.Test.YtkahlmkhancloabS5Lib
namespace Go.Proofs.Ytkahlmkhancloab
open Go.RowKit
set_option linter.unusedVariables false

set_option maxHeartbeats 1600000 in
theorem implSF (st pe ho si sp : Int) (w : World) : Calls Try.prog 59 #[.agg #[.int .i64 st, .int .i64 pe, .int .i64 ho, .int .i64 si, .int .i64 sp]] w fun e w' => e = .returned (.int .i64 (sf st pe ho si sp)) ∧ New w w' := by
  by_cases g0 : 0 ≤ st
  case neg =>
    have hx : sf st pe ho si sp = 3 := if_neg (fun k => g0 k.1.1)
    go_enter Try.func59, Try.ntmps59
    go_wp2
    go_ret
    exact ⟨ret_i64 (by first | exact hx.symm | rfl), (New.refl w).alloc _⟩
  by_cases g1 : st ≤ 3
  case neg =>
    have hx : sf st pe ho si sp = 3 := if_neg (fun k => g1 k.1.2)
    go_enter Try.func59, Try.ntmps59
    go_wp2
    go_ret
    exact ⟨ret_i64 (by first | exact hx.symm | rfl), (New.refl w).alloc _⟩
  by_cases g2 : 0 ≤ pe
  case neg =>
    have hx : sf st pe ho si sp = 3 := if_neg (fun k => g2 k.2.1.1)
    go_enter Try.func59, Try.ntmps59
    go_wp2
    go_ret
    exact ⟨ret_i64 (by first | exact hx.symm | rfl), (New.refl w).alloc _⟩
  by_cases g3 : pe ≤ 65535
  case neg =>
    have hx : sf st pe ho si sp = 3 := if_neg (fun k => g3 k.2.1.2)
    go_enter Try.func59, Try.ntmps59
    go_wp2
    go_ret
    exact ⟨ret_i64 (by first | exact hx.symm | rfl), (New.refl w).alloc _⟩
  by_cases g4 : HoP ho
  case neg =>
    have hx : sf st pe ho si sp = 3 := if_neg (fun k => g4 k.2.2.1)
    go_enter Try.func59, Try.ntmps59
    go_wp2_with fail
    refine (hold5_no _ _ g4).mono ?_
    rintro e w1 ⟨rfl, rfl⟩
    go_wp2
    go_ret
    exact ⟨ret_i64 (by first | exact hx.symm | rfl), (New.refl w).alloc _⟩
  by_cases g5 : 0 ≤ si ∧ si ≤ 1000
  case neg =>
    have hx : sf st pe ho si sp = 3 := if_neg (fun k => g5 k.2.2.2.1)
    go_enter Try.func59, Try.ntmps59
    go_wp2_with fail
    refine (hold5_yes _ _ g4).mono ?_
    rintro e w1 ⟨rfl, rfl⟩
    go_wp2_with fail
    refine (tick5_no _ _ g5).mono ?_
    rintro e w1 ⟨rfl, rfl⟩
    go_wp2
    go_ret
    exact ⟨ret_i64 (by first | exact hx.symm | rfl), (New.refl w).alloc _⟩
  by_cases g6 : 0 ≤ sp ∧ sp ≤ 1000
  case neg =>
    have hx : sf st pe ho si sp = 3 := if_neg (fun k => g6 k.2.2.2.2)
    go_enter Try.func59, Try.ntmps59
    go_wp2_with fail
    refine (hold5_yes _ _ g4).mono ?_
    rintro e w1 ⟨rfl, rfl⟩
    go_wp2_with fail
    refine (tick5_yes _ _ g5).mono ?_
    rintro e w1 ⟨rfl, rfl⟩
    go_wp2_with fail
    refine (tick5_no _ _ g6).mono ?_
    rintro e w1 ⟨rfl, rfl⟩
    go_wp2
    go_ret
    exact ⟨ret_i64 (by first | exact hx.symm | rfl), (New.refl w).alloc _⟩
  have hP : SsP st pe ho si sp := ⟨⟨g0, g1⟩, ⟨g2, g3⟩, g4, g5, g6⟩
  by_cases t0 : st = 0
  · subst t0
    by_cases u0 : pe = 0
    case neg =>
      have hx : sf 0 pe ho si sp = 1 := by unfold sf; rw [if_pos hP, if_pos rfl, if_neg (fun k => u0 k.1)]
      have z0 : (pe == 0) = false := by simpa using u0
      go_enter Try.func59, Try.ntmps59
      go_wp2_with fail
      refine (hold5_yes _ _ g4).mono ?_
      rintro e w1 ⟨rfl, rfl⟩
      go_wp2_with fail
      refine (tick5_yes _ _ g5).mono ?_
      rintro e w1 ⟨rfl, rfl⟩
      go_wp2_with fail
      refine (tick5_yes _ _ g6).mono ?_
      rintro e w1 ⟨rfl, rfl⟩
      go_wp2
      go_ret
      exact ⟨ret_i64 (by first | exact hx.symm | rfl), (New.refl w).alloc _⟩
    subst u0
    by_cases u1 : ho = 0
    case neg =>
      have hx : sf 0 0 ho si sp = 1 := by unfold sf; rw [if_pos hP, if_pos rfl, if_neg (fun k => u1 k.2.1)]
      have z0 : (ho == 0) = false := by simpa using u1
      go_enter Try.func59, Try.ntmps59
      go_wp2_with fail
      refine (hold5_yes _ _ g4).mono ?_
      rintro e w1 ⟨rfl, rfl⟩
      go_wp2_with fail
      refine (tick5_yes _ _ g5).mono ?_
      rintro e w1 ⟨rfl, rfl⟩
      go_wp2_with fail
      refine (tick5_yes _ _ g6).mono ?_
      rintro e w1 ⟨rfl, rfl⟩
      go_wp2
      go_ret
      exact ⟨ret_i64 (by first | exact hx.symm | rfl), (New.refl w).alloc _⟩
    subst u1
    by_cases u2 : si = 0
    case neg =>
      have hx : sf 0 0 0 si sp = 1 := by unfold sf; rw [if_pos hP, if_pos rfl, if_neg (fun k => u2 k.2.2.1)]
      have z0 : (si == 0) = false := by simpa using u2
      go_enter Try.func59, Try.ntmps59
      go_wp2_with fail
      refine (hold5_yes _ _ g4).mono ?_
      rintro e w1 ⟨rfl, rfl⟩
      go_wp2_with fail
      refine (tick5_yes _ _ g5).mono ?_
      rintro e w1 ⟨rfl, rfl⟩
      go_wp2_with fail
      refine (tick5_yes _ _ g6).mono ?_
      rintro e w1 ⟨rfl, rfl⟩
      go_wp2
      go_ret
      exact ⟨ret_i64 (by first | exact hx.symm | rfl), (New.refl w).alloc _⟩
    subst u2
    by_cases u3 : sp = 0
    case neg =>
      have hx : sf 0 0 0 0 sp = 1 := by unfold sf; rw [if_pos hP, if_pos rfl, if_neg (fun k => u3 k.2.2.2)]
      have z0 : (sp == 0) = false := by simpa using u3
      go_enter Try.func59, Try.ntmps59
      go_wp2_with fail
      refine (hold5_yes _ _ g4).mono ?_
      rintro e w1 ⟨rfl, rfl⟩
      go_wp2_with fail
      refine (tick5_yes _ _ g5).mono ?_
      rintro e w1 ⟨rfl, rfl⟩
      go_wp2_with fail
      refine (tick5_yes _ _ g6).mono ?_
      rintro e w1 ⟨rfl, rfl⟩
      go_wp2
      go_ret
      exact ⟨ret_i64 (by first | exact hx.symm | rfl), (New.refl w).alloc _⟩
    subst u3
    have hx : sf 0 0 0 0 0 = 0 := by decide
    go_enter Try.func59, Try.ntmps59
    go_wp2_with fail
    refine (hold5_yes _ _ g4).mono ?_
    rintro e w1 ⟨rfl, rfl⟩
    go_wp2_with fail
    refine (tick5_yes _ _ g5).mono ?_
    rintro e w1 ⟨rfl, rfl⟩
    go_wp2_with fail
    refine (tick5_yes _ _ g6).mono ?_
    rintro e w1 ⟨rfl, rfl⟩
    go_wp2
    go_ret
    exact ⟨ret_i64 (by first | exact hx.symm | rfl), (New.refl w).alloc _⟩
  have z0 : (st == 0) = false := by simpa using t0
  by_cases t1 : st = 1
  · subst t1
    by_cases u0 : pe = 0
    case neg =>
      have hx : sf 1 pe ho si sp = 1 := by unfold sf; rw [if_pos hP, if_neg t0, if_pos rfl, if_neg (fun k => u0 k.1)]
      have z1 : (pe != 0) = true := by simpa using u0
      go_enter Try.func59, Try.ntmps59
      go_wp2_with fail
      refine (hold5_yes _ _ g4).mono ?_
      rintro e w1 ⟨rfl, rfl⟩
      go_wp2_with fail
      refine (tick5_yes _ _ g5).mono ?_
      rintro e w1 ⟨rfl, rfl⟩
      go_wp2_with fail
      refine (tick5_yes _ _ g6).mono ?_
      rintro e w1 ⟨rfl, rfl⟩
      go_wp2
      go_ret
      exact ⟨ret_i64 (by first | exact hx.symm | rfl), (New.refl w).alloc _⟩
    subst u0
    by_cases u1 : ho = 0
    case neg =>
      have hx : sf 1 0 ho si sp = 1 := by unfold sf; rw [if_pos hP, if_neg t0, if_pos rfl, if_neg (fun k => u1 k.2)]
      have z1 : (ho != 0) = true := by simpa using u1
      go_enter Try.func59, Try.ntmps59
      go_wp2_with fail
      refine (hold5_yes _ _ g4).mono ?_
      rintro e w1 ⟨rfl, rfl⟩
      go_wp2_with fail
      refine (tick5_yes _ _ g5).mono ?_
      rintro e w1 ⟨rfl, rfl⟩
      go_wp2_with fail
      refine (tick5_yes _ _ g6).mono ?_
      rintro e w1 ⟨rfl, rfl⟩
      go_wp2
      go_ret
      exact ⟨ret_i64 (by first | exact hx.symm | rfl), (New.refl w).alloc _⟩
    subst u1
    have hx : sf 1 0 0 si sp = 0 := by unfold sf; rw [if_pos hP, if_neg t0, if_pos rfl, if_pos ⟨rfl, rfl⟩]
    go_enter Try.func59, Try.ntmps59
    go_wp2_with fail
    refine (hold5_yes _ _ g4).mono ?_
    rintro e w1 ⟨rfl, rfl⟩
    go_wp2_with fail
    refine (tick5_yes _ _ g5).mono ?_
    rintro e w1 ⟨rfl, rfl⟩
    go_wp2_with fail
    refine (tick5_yes _ _ g6).mono ?_
    rintro e w1 ⟨rfl, rfl⟩
    go_wp2
    go_ret
    exact ⟨ret_i64 (by first | exact hx.symm | rfl), (New.refl w).alloc _⟩
  have z1 : (st == 1) = false := by simpa using t1
  by_cases u0 : pe = 0
  · subst u0
    have hx : sf st 0 ho si sp = 1 := by unfold sf; rw [if_pos hP, if_neg t0, if_neg t1, if_pos rfl]
    go_enter Try.func59, Try.ntmps59
    go_wp2_with fail
    refine (hold5_yes _ _ g4).mono ?_
    rintro e w1 ⟨rfl, rfl⟩
    go_wp2_with fail
    refine (tick5_yes _ _ g5).mono ?_
    rintro e w1 ⟨rfl, rfl⟩
    go_wp2_with fail
    refine (tick5_yes _ _ g6).mono ?_
    rintro e w1 ⟨rfl, rfl⟩
    go_wp2
    go_ret
    exact ⟨ret_i64 (by first | exact hx.symm | rfl), (New.refl w).alloc _⟩
  have z2 : (pe == 0) = false := by simpa using u0
  have hx : sf st pe ho si sp = 0 := by unfold sf; rw [if_pos hP, if_neg t0, if_neg t1, if_neg u0]
  go_enter Try.func59, Try.ntmps59
  go_wp2_with fail
  refine (hold5_yes _ _ g4).mono ?_
  rintro e w1 ⟨rfl, rfl⟩
  go_wp2_with fail
  refine (tick5_yes _ _ g5).mono ?_
  rintro e w1 ⟨rfl, rfl⟩
  go_wp2_with fail
  refine (tick5_yes _ _ g6).mono ?_
  rintro e w1 ⟨rfl, rfl⟩
  go_wp2
  go_ret
  exact ⟨ret_i64 (by first | exact hx.symm | rfl), (New.refl w).alloc _⟩

set_option maxHeartbeats 1600000 in
theorem specSF (st pe ho si sp : Int) (w : World) : Calls Try.prog 77 #[.agg #[.int .i64 st, .int .i64 pe, .int .i64 ho, .int .i64 si, .int .i64 sp]] w fun e w' => e = .returned (.int .i64 (sf st pe ho si sp)) ∧ New w w' := by
  by_cases g0 : 0 ≤ st ∧ st ≤ 3
  case neg =>
    have hx : sf st pe ho si sp = 3 := if_neg (fun k => g0 k.1)
    go_enter Try.func77, Try.ntmps77
    go_wp2_with fail
    refine (in5_no _ _ _ _ g0).mono ?_
    rintro e w1 ⟨rfl, rfl⟩
    go_wp2
    go_ret
    exact ⟨ret_i64 (by first | exact hx.symm | rfl), by first | exact (New.refl w).alloc _ | exact ((New.refl w).alloc _).alloc _⟩
  by_cases g1 : 0 ≤ pe ∧ pe ≤ 65535
  case neg =>
    have hx : sf st pe ho si sp = 3 := if_neg (fun k => g1 k.2.1)
    go_enter Try.func77, Try.ntmps77
    go_wp2_with fail
    refine (in_yes _ _ _ _ g0).mono ?_
    rintro e w1 ⟨rfl, rfl⟩
    go_wp2_with fail
    refine (word5_no _ _ g1).mono ?_
    rintro e w1 ⟨rfl, rfl⟩
    go_wp2
    go_ret
    exact ⟨ret_i64 (by first | exact hx.symm | rfl), by first | exact (New.refl w).alloc _ | exact ((New.refl w).alloc _).alloc _⟩
  by_cases g2 : HoP ho
  case neg =>
    have hx : sf st pe ho si sp = 3 := if_neg (fun k => g2 k.2.2.1)
    go_enter Try.func77, Try.ntmps77
    go_wp2_with fail
    refine (in_yes _ _ _ _ g0).mono ?_
    rintro e w1 ⟨rfl, rfl⟩
    go_wp2_with fail
    refine (word5_yes _ _ g1).mono ?_
    rintro e w1 ⟨rfl, rfl⟩
    go_wp2_with fail
    refine (holdS5_no _ _ g2).mono ?_
    rintro e w1 ⟨rfl, rfl⟩
    go_wp2
    go_ret
    exact ⟨ret_i64 (by first | exact hx.symm | rfl), by first | exact (New.refl w).alloc _ | exact ((New.refl w).alloc _).alloc _⟩
  by_cases g3 : 0 ≤ si ∧ si ≤ 1000
  case neg =>
    have hx : sf st pe ho si sp = 3 := if_neg (fun k => g3 k.2.2.2.1)
    go_enter Try.func77, Try.ntmps77
    go_wp2_with fail
    refine (in_yes _ _ _ _ g0).mono ?_
    rintro e w1 ⟨rfl, rfl⟩
    go_wp2_with fail
    refine (word5_yes _ _ g1).mono ?_
    rintro e w1 ⟨rfl, rfl⟩
    go_wp2_with fail
    refine (holdS5_yes _ _ g2).mono ?_
    rintro e w1 ⟨rfl, rfl⟩
    go_wp2_with fail
    refine (in5_no _ _ _ _ g3).mono ?_
    rintro e w1 ⟨rfl, rfl⟩
    go_wp2
    go_ret
    exact ⟨ret_i64 (by first | exact hx.symm | rfl), by first | exact (New.refl w).alloc _ | exact ((New.refl w).alloc _).alloc _⟩
  by_cases g4 : 0 ≤ sp ∧ sp ≤ 1000
  case neg =>
    have hx : sf st pe ho si sp = 3 := if_neg (fun k => g4 k.2.2.2.2)
    go_enter Try.func77, Try.ntmps77
    go_wp2_with fail
    refine (in_yes _ _ _ _ g0).mono ?_
    rintro e w1 ⟨rfl, rfl⟩
    go_wp2_with fail
    refine (word5_yes _ _ g1).mono ?_
    rintro e w1 ⟨rfl, rfl⟩
    go_wp2_with fail
    refine (holdS5_yes _ _ g2).mono ?_
    rintro e w1 ⟨rfl, rfl⟩
    go_wp2_with fail
    refine (in_yes _ _ _ _ g3).mono ?_
    rintro e w1 ⟨rfl, rfl⟩
    go_wp2_with fail
    refine (in5_no _ _ _ _ g4).mono ?_
    rintro e w1 ⟨rfl, rfl⟩
    go_wp2
    go_ret
    exact ⟨ret_i64 (by first | exact hx.symm | rfl), by first | exact (New.refl w).alloc _ | exact ((New.refl w).alloc _).alloc _⟩
  have hP : SsP st pe ho si sp := ⟨g0, g1, g2, g3, g4⟩
  by_cases t0 : st = 0
  · subst t0
    by_cases u0 : pe = 0
    case neg =>
      have hx : sf 0 pe ho si sp = 1 := by unfold sf; rw [if_pos hP, if_pos rfl, if_neg (fun k => u0 k.1)]
      have z0 : (pe == 0) = false := by simpa using u0
      go_enter Try.func77, Try.ntmps77
      go_wp2_with fail
      refine (in_yes _ _ _ _ g0).mono ?_
      rintro e w1 ⟨rfl, rfl⟩
      go_wp2_with fail
      refine (word5_yes _ _ g1).mono ?_
      rintro e w1 ⟨rfl, rfl⟩
      go_wp2_with fail
      refine (holdS5_yes _ _ g2).mono ?_
      rintro e w1 ⟨rfl, rfl⟩
      go_wp2_with fail
      refine (in_yes _ _ _ _ g3).mono ?_
      rintro e w1 ⟨rfl, rfl⟩
      go_wp2_with fail
      refine (in_yes _ _ _ _ g4).mono ?_
      rintro e w1 ⟨rfl, rfl⟩
      go_wp2
      go_ret
      exact ⟨ret_i64 (by first | exact hx.symm | rfl), by first | exact (New.refl w).alloc _ | exact ((New.refl w).alloc _).alloc _⟩
    subst u0
    by_cases u1 : ho = 0
    case neg =>
      have hx : sf 0 0 ho si sp = 1 := by unfold sf; rw [if_pos hP, if_pos rfl, if_neg (fun k => u1 k.2.1)]
      have z0 : (ho == 0) = false := by simpa using u1
      go_enter Try.func77, Try.ntmps77
      go_wp2_with fail
      refine (in_yes _ _ _ _ g0).mono ?_
      rintro e w1 ⟨rfl, rfl⟩
      go_wp2_with fail
      refine (word5_yes _ _ g1).mono ?_
      rintro e w1 ⟨rfl, rfl⟩
      go_wp2_with fail
      refine (holdS5_yes _ _ g2).mono ?_
      rintro e w1 ⟨rfl, rfl⟩
      go_wp2_with fail
      refine (in_yes _ _ _ _ g3).mono ?_
      rintro e w1 ⟨rfl, rfl⟩
      go_wp2_with fail
      refine (in_yes _ _ _ _ g4).mono ?_
      rintro e w1 ⟨rfl, rfl⟩
      go_wp2
      go_ret
      exact ⟨ret_i64 (by first | exact hx.symm | rfl), by first | exact (New.refl w).alloc _ | exact ((New.refl w).alloc _).alloc _⟩
    subst u1
    by_cases u2 : si = 0
    case neg =>
      have hx : sf 0 0 0 si sp = 1 := by unfold sf; rw [if_pos hP, if_pos rfl, if_neg (fun k => u2 k.2.2.1)]
      have z0 : (si == 0) = false := by simpa using u2
      go_enter Try.func77, Try.ntmps77
      go_wp2_with fail
      refine (in_yes _ _ _ _ g0).mono ?_
      rintro e w1 ⟨rfl, rfl⟩
      go_wp2_with fail
      refine (word5_yes _ _ g1).mono ?_
      rintro e w1 ⟨rfl, rfl⟩
      go_wp2_with fail
      refine (holdS5_yes _ _ g2).mono ?_
      rintro e w1 ⟨rfl, rfl⟩
      go_wp2_with fail
      refine (in_yes _ _ _ _ g3).mono ?_
      rintro e w1 ⟨rfl, rfl⟩
      go_wp2_with fail
      refine (in_yes _ _ _ _ g4).mono ?_
      rintro e w1 ⟨rfl, rfl⟩
      go_wp2
      go_ret
      exact ⟨ret_i64 (by first | exact hx.symm | rfl), by first | exact (New.refl w).alloc _ | exact ((New.refl w).alloc _).alloc _⟩
    subst u2
    by_cases u3 : sp = 0
    case neg =>
      have hx : sf 0 0 0 0 sp = 1 := by unfold sf; rw [if_pos hP, if_pos rfl, if_neg (fun k => u3 k.2.2.2)]
      have z0 : (sp == 0) = false := by simpa using u3
      go_enter Try.func77, Try.ntmps77
      go_wp2_with fail
      refine (in_yes _ _ _ _ g0).mono ?_
      rintro e w1 ⟨rfl, rfl⟩
      go_wp2_with fail
      refine (word5_yes _ _ g1).mono ?_
      rintro e w1 ⟨rfl, rfl⟩
      go_wp2_with fail
      refine (holdS5_yes _ _ g2).mono ?_
      rintro e w1 ⟨rfl, rfl⟩
      go_wp2_with fail
      refine (in_yes _ _ _ _ g3).mono ?_
      rintro e w1 ⟨rfl, rfl⟩
      go_wp2_with fail
      refine (in_yes _ _ _ _ g4).mono ?_
      rintro e w1 ⟨rfl, rfl⟩
      go_wp2
      go_ret
      exact ⟨ret_i64 (by first | exact hx.symm | rfl), by first | exact (New.refl w).alloc _ | exact ((New.refl w).alloc _).alloc _⟩
    subst u3
    have hx : sf 0 0 0 0 0 = 0 := by decide
    go_enter Try.func77, Try.ntmps77
    go_wp2_with fail
    refine (in_yes _ _ _ _ g0).mono ?_
    rintro e w1 ⟨rfl, rfl⟩
    go_wp2_with fail
    refine (word5_yes _ _ g1).mono ?_
    rintro e w1 ⟨rfl, rfl⟩
    go_wp2_with fail
    refine (holdS5_yes _ _ g2).mono ?_
    rintro e w1 ⟨rfl, rfl⟩
    go_wp2_with fail
    refine (in_yes _ _ _ _ g3).mono ?_
    rintro e w1 ⟨rfl, rfl⟩
    go_wp2_with fail
    refine (in_yes _ _ _ _ g4).mono ?_
    rintro e w1 ⟨rfl, rfl⟩
    go_wp2
    go_ret
    exact ⟨ret_i64 (by first | exact hx.symm | rfl), by first | exact (New.refl w).alloc _ | exact ((New.refl w).alloc _).alloc _⟩
  have z0 : (st == 0) = false := by simpa using t0
  by_cases t1 : st = 1
  · subst t1
    by_cases u0 : pe = 0
    case neg =>
      have hx : sf 1 pe ho si sp = 1 := by unfold sf; rw [if_pos hP, if_neg t0, if_pos rfl, if_neg (fun k => u0 k.1)]
      have z1 : (pe != 0) = true := by simpa using u0
      go_enter Try.func77, Try.ntmps77
      go_wp2_with fail
      refine (in_yes _ _ _ _ g0).mono ?_
      rintro e w1 ⟨rfl, rfl⟩
      go_wp2_with fail
      refine (word5_yes _ _ g1).mono ?_
      rintro e w1 ⟨rfl, rfl⟩
      go_wp2_with fail
      refine (holdS5_yes _ _ g2).mono ?_
      rintro e w1 ⟨rfl, rfl⟩
      go_wp2_with fail
      refine (in_yes _ _ _ _ g3).mono ?_
      rintro e w1 ⟨rfl, rfl⟩
      go_wp2_with fail
      refine (in_yes _ _ _ _ g4).mono ?_
      rintro e w1 ⟨rfl, rfl⟩
      go_wp2
      go_ret
      exact ⟨ret_i64 (by first | exact hx.symm | rfl), by first | exact (New.refl w).alloc _ | exact ((New.refl w).alloc _).alloc _⟩
    subst u0
    by_cases u1 : ho = 0
    case neg =>
      have hx : sf 1 0 ho si sp = 1 := by unfold sf; rw [if_pos hP, if_neg t0, if_pos rfl, if_neg (fun k => u1 k.2)]
      have z1 : (ho != 0) = true := by simpa using u1
      go_enter Try.func77, Try.ntmps77
      go_wp2_with fail
      refine (in_yes _ _ _ _ g0).mono ?_
      rintro e w1 ⟨rfl, rfl⟩
      go_wp2_with fail
      refine (word5_yes _ _ g1).mono ?_
      rintro e w1 ⟨rfl, rfl⟩
      go_wp2_with fail
      refine (holdS5_yes _ _ g2).mono ?_
      rintro e w1 ⟨rfl, rfl⟩
      go_wp2_with fail
      refine (in_yes _ _ _ _ g3).mono ?_
      rintro e w1 ⟨rfl, rfl⟩
      go_wp2_with fail
      refine (in_yes _ _ _ _ g4).mono ?_
      rintro e w1 ⟨rfl, rfl⟩
      go_wp2
      go_ret
      exact ⟨ret_i64 (by first | exact hx.symm | rfl), by first | exact (New.refl w).alloc _ | exact ((New.refl w).alloc _).alloc _⟩
    subst u1
    have hx : sf 1 0 0 si sp = 0 := by unfold sf; rw [if_pos hP, if_neg t0, if_pos rfl, if_pos ⟨rfl, rfl⟩]
    go_enter Try.func77, Try.ntmps77
    go_wp2_with fail
    refine (in_yes _ _ _ _ g0).mono ?_
    rintro e w1 ⟨rfl, rfl⟩
    go_wp2_with fail
    refine (word5_yes _ _ g1).mono ?_
    rintro e w1 ⟨rfl, rfl⟩
    go_wp2_with fail
    refine (holdS5_yes _ _ g2).mono ?_
    rintro e w1 ⟨rfl, rfl⟩
    go_wp2_with fail
    refine (in_yes _ _ _ _ g3).mono ?_
    rintro e w1 ⟨rfl, rfl⟩
    go_wp2_with fail
    refine (in_yes _ _ _ _ g4).mono ?_
    rintro e w1 ⟨rfl, rfl⟩
    go_wp2
    go_ret
    exact ⟨ret_i64 (by first | exact hx.symm | rfl), by first | exact (New.refl w).alloc _ | exact ((New.refl w).alloc _).alloc _⟩
  have z1 : (st == 1) = false := by simpa using t1
  by_cases u0 : pe = 0
  · subst u0
    have hx : sf st 0 ho si sp = 1 := by unfold sf; rw [if_pos hP, if_neg t0, if_neg t1, if_pos rfl]
    go_enter Try.func77, Try.ntmps77
    go_wp2_with fail
    refine (in_yes _ _ _ _ g0).mono ?_
    rintro e w1 ⟨rfl, rfl⟩
    go_wp2_with fail
    refine (word5_yes _ _ g1).mono ?_
    rintro e w1 ⟨rfl, rfl⟩
    go_wp2_with fail
    refine (holdS5_yes _ _ g2).mono ?_
    rintro e w1 ⟨rfl, rfl⟩
    go_wp2_with fail
    refine (in_yes _ _ _ _ g3).mono ?_
    rintro e w1 ⟨rfl, rfl⟩
    go_wp2_with fail
    refine (in_yes _ _ _ _ g4).mono ?_
    rintro e w1 ⟨rfl, rfl⟩
    go_wp2
    go_ret
    exact ⟨ret_i64 (by first | exact hx.symm | rfl), by first | exact (New.refl w).alloc _ | exact ((New.refl w).alloc _).alloc _⟩
  have z2 : (pe == 0) = false := by simpa using u0
  have hx : sf st pe ho si sp = 0 := by unfold sf; rw [if_pos hP, if_neg t0, if_neg t1, if_neg u0]
  go_enter Try.func77, Try.ntmps77
  go_wp2_with fail
  refine (in_yes _ _ _ _ g0).mono ?_
  rintro e w1 ⟨rfl, rfl⟩
  go_wp2_with fail
  refine (word5_yes _ _ g1).mono ?_
  rintro e w1 ⟨rfl, rfl⟩
  go_wp2_with fail
  refine (holdS5_yes _ _ g2).mono ?_
  rintro e w1 ⟨rfl, rfl⟩
  go_wp2_with fail
  refine (in_yes _ _ _ _ g3).mono ?_
  rintro e w1 ⟨rfl, rfl⟩
  go_wp2_with fail
  refine (in_yes _ _ _ _ g4).mono ?_
  rintro e w1 ⟨rfl, rfl⟩
  go_wp2
  go_ret
  exact ⟨ret_i64 (by first | exact hx.symm | rfl), by first | exact (New.refl w).alloc _ | exact ((New.refl w).alloc _).alloc _⟩

set_option maxHeartbeats 1600000 in
theorem implCF (sa si ho : Int) (w : World) : Calls Try.prog 56 #[.agg #[.int .i64 sa, .int .i64 si, .int .i64 ho]] w fun e w' => e = .returned (.int .i64 (cf sa si ho)) ∧ New w w' := by
  by_cases g0 : 1 ≤ sa ∧ sa ≤ 65535
  case neg =>
    have hx : cf sa si ho = 3 := if_neg (fun k => g0 k.1)
    go_enter Try.func56, Try.ntmps56
    go_wp2_with fail
    refine (sys5_no _ _ g0).mono ?_
    rintro e w1 ⟨rfl, rfl⟩
    go_wp2
    go_ret
    exact ⟨ret_i64 (by first | exact hx.symm | rfl), (New.refl w).alloc _⟩
  by_cases g1 : 1 ≤ si ∧ si ≤ 65535
  case neg =>
    have hx : cf sa si ho = 3 := if_neg (fun k => g1 k.2.1)
    go_enter Try.func56, Try.ntmps56
    go_wp2_with fail
    refine (sys5_yes _ _ g0).mono ?_
    rintro e w1 ⟨rfl, rfl⟩
    go_wp2_with fail
    refine (id5_no _ _ g1).mono ?_
    rintro e w1 ⟨rfl, rfl⟩
    go_wp2
    go_ret
    exact ⟨ret_i64 (by first | exact hx.symm | rfl), (New.refl w).alloc _⟩
  by_cases g2 : HoP ho
  case neg =>
    have hx : cf sa si ho = 3 := if_neg (fun k => g2 k.2.2)
    go_enter Try.func56, Try.ntmps56
    go_wp2_with fail
    refine (sys5_yes _ _ g0).mono ?_
    rintro e w1 ⟨rfl, rfl⟩
    go_wp2_with fail
    refine (id5_yes _ _ g1).mono ?_
    rintro e w1 ⟨rfl, rfl⟩
    go_wp2_with fail
    refine (hold5_no _ _ g2).mono ?_
    rintro e w1 ⟨rfl, rfl⟩
    go_wp2
    go_ret
    exact ⟨ret_i64 (by first | exact hx.symm | rfl), (New.refl w).alloc _⟩
  have hx : cf sa si ho = 0 := if_pos ⟨g0, g1, g2⟩
  go_enter Try.func56, Try.ntmps56
  go_wp2_with fail
  refine (sys5_yes _ _ g0).mono ?_
  rintro e w1 ⟨rfl, rfl⟩
  go_wp2_with fail
  refine (id5_yes _ _ g1).mono ?_
  rintro e w1 ⟨rfl, rfl⟩
  go_wp2_with fail
  refine (hold5_yes _ _ g2).mono ?_
  rintro e w1 ⟨rfl, rfl⟩
  go_wp2
  go_ret
  exact ⟨ret_i64 (by first | exact hx.symm | rfl), (New.refl w).alloc _⟩

set_option maxHeartbeats 1600000 in
theorem specCF (sa si ho : Int) (w : World) : Calls Try.prog 74 #[.agg #[.int .i64 sa, .int .i64 si, .int .i64 ho]] w fun e w' => e = .returned (.int .i64 (cf sa si ho)) ∧ New w w' := by
  by_cases g0 : 1 ≤ sa ∧ sa ≤ 65535
  case neg =>
    have hx : cf sa si ho = 3 := if_neg (fun k => g0 k.1)
    go_enter Try.func74, Try.ntmps74
    go_wp2_with fail
    refine (in5_no _ _ _ _ g0).mono ?_
    rintro e w1 ⟨rfl, rfl⟩
    go_wp2
    go_ret
    exact ⟨ret_i64 (by first | exact hx.symm | rfl), (New.refl w).alloc _⟩
  by_cases g1 : 1 ≤ si ∧ si ≤ 65535
  case neg =>
    have hx : cf sa si ho = 3 := if_neg (fun k => g1 k.2.1)
    go_enter Try.func74, Try.ntmps74
    go_wp2_with fail
    refine (in_yes _ _ _ _ g0).mono ?_
    rintro e w1 ⟨rfl, rfl⟩
    go_wp2_with fail
    refine (in5_no _ _ _ _ g1).mono ?_
    rintro e w1 ⟨rfl, rfl⟩
    go_wp2
    go_ret
    exact ⟨ret_i64 (by first | exact hx.symm | rfl), (New.refl w).alloc _⟩
  by_cases g2 : HoP ho
  case neg =>
    have hx : cf sa si ho = 3 := if_neg (fun k => g2 k.2.2)
    go_enter Try.func74, Try.ntmps74
    go_wp2_with fail
    refine (in_yes _ _ _ _ g0).mono ?_
    rintro e w1 ⟨rfl, rfl⟩
    go_wp2_with fail
    refine (in_yes _ _ _ _ g1).mono ?_
    rintro e w1 ⟨rfl, rfl⟩
    go_wp2_with fail
    refine (holdS5_no _ _ g2).mono ?_
    rintro e w1 ⟨rfl, rfl⟩
    go_wp2
    go_ret
    exact ⟨ret_i64 (by first | exact hx.symm | rfl), (New.refl w).alloc _⟩
  have hx : cf sa si ho = 0 := if_pos ⟨g0, g1, g2⟩
  go_enter Try.func74, Try.ntmps74
  go_wp2_with fail
  refine (in_yes _ _ _ _ g0).mono ?_
  rintro e w1 ⟨rfl, rfl⟩
  go_wp2_with fail
  refine (in_yes _ _ _ _ g1).mono ?_
  rintro e w1 ⟨rfl, rfl⟩
  go_wp2_with fail
  refine (holdS5_yes _ _ g2).mono ?_
  rintro e w1 ⟨rfl, rfl⟩
  go_wp2
  go_ret
  exact ⟨ret_i64 (by first | exact hx.symm | rfl), (New.refl w).alloc _⟩

end Go.Proofs.Ytkahlmkhancloab
