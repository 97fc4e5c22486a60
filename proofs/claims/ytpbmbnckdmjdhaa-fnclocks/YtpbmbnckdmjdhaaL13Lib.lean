/- What is proved here: what the judging, the granting, the asking and the taking of a lease answer, in the program and in the model. No condition. -/
import Derived.Test.YtpbmbnckdmjdhaaNumLib
namespace Go.Proofs.Ytpbmbnckdmjdhaa
open Go.RowKit
set_option linter.unusedVariables false

/-- The numbers of a lease. -/
abbrev LeP (ho ep ak he : Int) : Prop := (0 ≤ ho ∧ ho ≤ 1) ∧ (1 ≤ ep ∧ ep ≤ 1000) ∧ (0 ≤ ak ∧ ak ≤ 1000000002) ∧ (0 ≤ he ∧ he ≤ 1000000002)

/-- The fault of a lease. -/
def lf (ho ep ak he : Int) : Int := if LeP ho ep ak he then 0 else 3

theorem lf_ok {ho ep ak he : Int} (h : LeP ho ep ak he) : lf ho ep ak he = 0 := if_pos h

theorem lf_bad {ho ep ak he : Int} (h : ¬ LeP ho ep ak he) : lf ho ep ak he = 3 := if_neg h

theorem lf_zero {ho ep ak he : Int} (h : lf ho ep ak he = 0) : LeP ho ep ak he := by
  unfold lf at h
  split at h
  · assumption
  · cases h

theorem ret13_bool {a b : Bool} (h : a = b) : Ending.returned (.bool a) = .returned (.bool b) := by rw [h]

theorem ret13 {a b : Value} (h : a = b) : Ending.returned a = .returned b := by rw [h]

theorem seen13_yes (x : Int) (w : World) (h : 0 ≤ x ∧ x ≤ 1000000002) : Calls Try.prog 46 #[.int .i64 x] w fun e w' => e = .returned (.bool true) ∧ w' = w := by
  obtain ⟨h1, h2⟩ := h
  go_enter Try.func46, Try.ntmps46
  go_wp2
  go_ret
  exact ⟨by simp, rfl⟩

theorem seen13_no (x : Int) (w : World) (h : ¬ (0 ≤ x ∧ x ≤ 1000000002)) : Calls Try.prog 46 #[.int .i64 x] w fun e w' => e = .returned (.bool false) ∧ w' = w := by
  by_cases h1 : 0 ≤ x
  · have h2 : 1000000002 < x := by omega
    clear h
    go_enter Try.func46, Try.ntmps46
    go_wp2
    go_ret
    exact ⟨by simp; omega, rfl⟩
  · clear h
    go_enter Try.func46, Try.ntmps46
    go_wp2
    go_ret
    exact ⟨rfl, rfl⟩

theorem ep13_yes (x : Int) (w : World) (h : 1 ≤ x ∧ x ≤ 1000) : Calls Try.prog 48 #[.int .i64 x] w fun e w' => e = .returned (.bool true) ∧ w' = w := by
  obtain ⟨h1, h2⟩ := h
  go_enter Try.func48, Try.ntmps48
  go_wp2
  go_ret
  exact ⟨by simp, rfl⟩

theorem ep13_no (x : Int) (w : World) (h : ¬ (1 ≤ x ∧ x ≤ 1000)) : Calls Try.prog 48 #[.int .i64 x] w fun e w' => e = .returned (.bool false) ∧ w' = w := by
  by_cases h1 : 1 ≤ x
  · have h2 : 1000 < x := by omega
    clear h
    go_enter Try.func48, Try.ntmps48
    go_wp2
    go_ret
    exact ⟨by simp; omega, rfl⟩
  · clear h
    go_enter Try.func48, Try.ntmps48
    go_wp2
    go_ret
    exact ⟨rfl, rfl⟩

theorem node13_yes (x : Int) (w : World) (h : 0 ≤ x ∧ x ≤ 1) : Calls Try.prog 47 #[.int .i64 x] w fun e w' => e = .returned (.bool true) ∧ w' = w := by
  obtain rfl | rfl : x = 0 ∨ x = 1 := by omega
  all_goals
    go_enter Try.func47, Try.ntmps47
    go_wp2
    go_ret
    exact ⟨rfl, rfl⟩

theorem node13_no (x : Int) (w : World) (h : ¬ (0 ≤ x ∧ x ≤ 1)) : Calls Try.prog 47 #[.int .i64 x] w fun e w' => e = .returned (.bool false) ∧ w' = w := by
  have h0 : (x == 0) = false := by simp; omega
  have h1 : (x == 1) = false := by simp; omega
  clear h
  go_enter Try.func47, Try.ntmps47
  go_wp2
  go_ret
  exact ⟨rfl, rfl⟩

theorem time13_yes (x : Int) (w : World) (h : 0 ≤ x ∧ x ≤ 1000000002) : Calls Try.prog 51 #[.int .i64 x] w fun e w' => e = .returned (.bool true) ∧ w' = w := by
  go_enter Try.func51, Try.ntmps51
  go_wp2_with fail
  refine (in_yes _ _ _ _ h).mono ?_
  rintro e w1 ⟨rfl, rfl⟩
  go_wp2
  go_ret
  exact ⟨rfl, rfl⟩

theorem time13_no (x : Int) (w : World) (h : ¬ (0 ≤ x ∧ x ≤ 1000000002)) : Calls Try.prog 51 #[.int .i64 x] w fun e w' => e = .returned (.bool false) ∧ w' = w := by
  go_enter Try.func51, Try.ntmps51
  go_wp2_with fail
  refine (in_no _ _ _ _ (by omega)).mono ?_
  rintro e w1 ⟨rfl, rfl⟩
  go_wp2
  go_ret
  exact ⟨rfl, rfl⟩

theorem sep13_yes (x : Int) (w : World) (h : 1 ≤ x ∧ x ≤ 1000) : Calls Try.prog 59 #[.int .i64 x] w fun e w' => e = .returned (.bool true) ∧ w' = w := by
  go_enter Try.func59, Try.ntmps59
  go_wp2_with fail
  refine (in_yes _ _ _ _ h).mono ?_
  rintro e w1 ⟨rfl, rfl⟩
  go_wp2
  go_ret
  exact ⟨rfl, rfl⟩

theorem sep13_no (x : Int) (w : World) (h : ¬ (1 ≤ x ∧ x ≤ 1000)) : Calls Try.prog 59 #[.int .i64 x] w fun e w' => e = .returned (.bool false) ∧ w' = w := by
  go_enter Try.func59, Try.ntmps59
  go_wp2_with fail
  refine (in_no _ _ _ _ (by omega)).mono ?_
  rintro e w1 ⟨rfl, rfl⟩
  go_wp2
  go_ret
  exact ⟨rfl, rfl⟩

theorem sin13_no (v lo hi : Int) (w : World) (h : ¬ (lo ≤ v ∧ v ≤ hi)) : Calls Try.prog 56 #[.int .i64 v, .int .i64 lo, .int .i64 hi] w fun e w' => e = .returned (.bool false) ∧ w' = w :=
  in_no v lo hi w (by omega)

set_option maxHeartbeats 1600000 in
theorem implLeF (ho ep ak he : Int) (w : World) : Calls Try.prog 20 #[.agg #[.int .i64 ho, .int .i64 ep, .int .i64 ak, .int .i64 he]] w fun e w' => e = .returned (.int .i64 (lf ho ep ak he)) ∧ New w w' := by
  by_cases g0 : 0 ≤ ho ∧ ho ≤ 1
  case neg =>
    have hx : Hid (lf ho ep ak he = 3) := lf_bad (fun k => g0 k.1)
    go_enter Try.func20, Try.ntmps20
    go_wp2_with fail
    refine (node13_no _ _ g0).mono ?_
    rintro e w1 ⟨rfl, rfl⟩
    go_wp2
    go_ret
    exact ⟨ret_i64 hx.out.symm, (New.refl w).alloc _⟩
  by_cases g1 : 1 ≤ ep ∧ ep ≤ 1000
  case neg =>
    have hx : Hid (lf ho ep ak he = 3) := lf_bad (fun k => g1 k.2.1)
    go_enter Try.func20, Try.ntmps20
    go_wp2_with fail
    refine (node13_yes _ _ g0).mono ?_
    rintro e w1 ⟨rfl, rfl⟩
    go_wp2_with fail
    refine (ep13_no _ _ g1).mono ?_
    rintro e w1 ⟨rfl, rfl⟩
    go_wp2
    go_ret
    exact ⟨ret_i64 hx.out.symm, (New.refl w).alloc _⟩
  by_cases g2 : 0 ≤ ak ∧ ak ≤ 1000000002
  case neg =>
    have hx : Hid (lf ho ep ak he = 3) := lf_bad (fun k => g2 k.2.2.1)
    go_enter Try.func20, Try.ntmps20
    go_wp2_with fail
    refine (node13_yes _ _ g0).mono ?_
    rintro e w1 ⟨rfl, rfl⟩
    go_wp2_with fail
    refine (ep13_yes _ _ g1).mono ?_
    rintro e w1 ⟨rfl, rfl⟩
    go_wp2_with fail
    refine (seen13_no _ _ g2).mono ?_
    rintro e w1 ⟨rfl, rfl⟩
    go_wp2
    go_ret
    exact ⟨ret_i64 hx.out.symm, (New.refl w).alloc _⟩
  by_cases g3 : 0 ≤ he ∧ he ≤ 1000000002
  case neg =>
    have hx : Hid (lf ho ep ak he = 3) := lf_bad (fun k => g3 k.2.2.2)
    go_enter Try.func20, Try.ntmps20
    go_wp2_with fail
    refine (node13_yes _ _ g0).mono ?_
    rintro e w1 ⟨rfl, rfl⟩
    go_wp2_with fail
    refine (ep13_yes _ _ g1).mono ?_
    rintro e w1 ⟨rfl, rfl⟩
    go_wp2_with fail
    refine (seen13_yes _ _ g2).mono ?_
    rintro e w1 ⟨rfl, rfl⟩
    go_wp2_with fail
    refine (seen13_no _ _ g3).mono ?_
    rintro e w1 ⟨rfl, rfl⟩
    go_wp2
    go_ret
    exact ⟨ret_i64 hx.out.symm, (New.refl w).alloc _⟩
  have hx : Hid (lf ho ep ak he = 0) := lf_ok ⟨g0, g1, g2, g3⟩
  go_enter Try.func20, Try.ntmps20
  go_wp2_with fail
  refine (node13_yes _ _ g0).mono ?_
  rintro e w1 ⟨rfl, rfl⟩
  go_wp2_with fail
  refine (ep13_yes _ _ g1).mono ?_
  rintro e w1 ⟨rfl, rfl⟩
  go_wp2_with fail
  refine (seen13_yes _ _ g2).mono ?_
  rintro e w1 ⟨rfl, rfl⟩
  go_wp2_with fail
  refine (seen13_yes _ _ g3).mono ?_
  rintro e w1 ⟨rfl, rfl⟩
  go_wp2
  go_ret
  exact ⟨ret_i64 hx.out.symm, (New.refl w).alloc _⟩

set_option maxHeartbeats 1600000 in
theorem specLeF (ho ep ak he : Int) (w : World) : Calls Try.prog 28 #[.agg #[.int .i64 ho, .int .i64 ep, .int .i64 ak, .int .i64 he]] w fun e w' => e = .returned (.int .i64 (lf ho ep ak he)) ∧ New w w' := by
  by_cases g0 : 0 ≤ ho ∧ ho ≤ 1
  case neg =>
    have hx : Hid (lf ho ep ak he = 3) := lf_bad (fun k => g0 k.1)
    go_enter Try.func28, Try.ntmps28
    go_wp2_with fail
    refine (sin13_no _ _ _ _ g0).mono ?_
    rintro e w1 ⟨rfl, rfl⟩
    go_wp2
    go_ret
    exact ⟨ret_i64 hx.out.symm, (New.refl w).alloc _⟩
  by_cases g1 : 1 ≤ ep ∧ ep ≤ 1000
  case neg =>
    have hx : Hid (lf ho ep ak he = 3) := lf_bad (fun k => g1 k.2.1)
    go_enter Try.func28, Try.ntmps28
    go_wp2_with fail
    refine (in_yes _ _ _ _ g0).mono ?_
    rintro e w1 ⟨rfl, rfl⟩
    go_wp2_with fail
    refine (sep13_no _ _ g1).mono ?_
    rintro e w1 ⟨rfl, rfl⟩
    go_wp2
    go_ret
    exact ⟨ret_i64 hx.out.symm, (New.refl w).alloc _⟩
  by_cases g2 : 0 ≤ ak ∧ ak ≤ 1000000002
  case neg =>
    have hx : Hid (lf ho ep ak he = 3) := lf_bad (fun k => g2 k.2.2.1)
    go_enter Try.func28, Try.ntmps28
    go_wp2_with fail
    refine (in_yes _ _ _ _ g0).mono ?_
    rintro e w1 ⟨rfl, rfl⟩
    go_wp2_with fail
    refine (sep13_yes _ _ g1).mono ?_
    rintro e w1 ⟨rfl, rfl⟩
    go_wp2_with fail
    refine (time13_no _ _ g2).mono ?_
    rintro e w1 ⟨rfl, rfl⟩
    go_wp2
    go_ret
    exact ⟨ret_i64 hx.out.symm, (New.refl w).alloc _⟩
  by_cases g3 : 0 ≤ he ∧ he ≤ 1000000002
  case neg =>
    have hx : Hid (lf ho ep ak he = 3) := lf_bad (fun k => g3 k.2.2.2)
    go_enter Try.func28, Try.ntmps28
    go_wp2_with fail
    refine (in_yes _ _ _ _ g0).mono ?_
    rintro e w1 ⟨rfl, rfl⟩
    go_wp2_with fail
    refine (sep13_yes _ _ g1).mono ?_
    rintro e w1 ⟨rfl, rfl⟩
    go_wp2_with fail
    refine (time13_yes _ _ g2).mono ?_
    rintro e w1 ⟨rfl, rfl⟩
    go_wp2_with fail
    refine (time13_no _ _ g3).mono ?_
    rintro e w1 ⟨rfl, rfl⟩
    go_wp2
    go_ret
    exact ⟨ret_i64 hx.out.symm, (New.refl w).alloc _⟩
  have hx : Hid (lf ho ep ak he = 0) := lf_ok ⟨g0, g1, g2, g3⟩
  go_enter Try.func28, Try.ntmps28
  go_wp2_with fail
  refine (in_yes _ _ _ _ g0).mono ?_
  rintro e w1 ⟨rfl, rfl⟩
  go_wp2_with fail
  refine (sep13_yes _ _ g1).mono ?_
  rintro e w1 ⟨rfl, rfl⟩
  go_wp2_with fail
  refine (time13_yes _ _ g2).mono ?_
  rintro e w1 ⟨rfl, rfl⟩
  go_wp2_with fail
  refine (time13_yes _ _ g3).mono ?_
  rintro e w1 ⟨rfl, rfl⟩
  go_wp2
  go_ret
  exact ⟨ret_i64 hx.out.symm, (New.refl w).alloc _⟩

theorem implLeF_is (ho ep ak he c : Int) (w : World) (h : lf ho ep ak he = c) : Calls Try.prog 20 #[.agg #[.int .i64 ho, .int .i64 ep, .int .i64 ak, .int .i64 he]] w fun e w' => e = .returned (.int .i64 c) ∧ New w w' := h ▸ implLeF ho ep ak he w

theorem specLeF_is (ho ep ak he c : Int) (w : World) (h : lf ho ep ak he = c) : Calls Try.prog 28 #[.agg #[.int .i64 ho, .int .i64 ep, .int .i64 ak, .int .i64 he]] w fun e w' => e = .returned (.int .i64 c) ∧ New w w' := h ▸ specLeF ho ep ak he w

/-- Who may lead. -/
def mlB (ho ep ak he s : Int) : Bool := decide (LeP ho ep ak he) && (decide (0 ≤ s ∧ s ≤ 1000000002) && decide (s < ak + 6))

/-- Who may take. -/
def mtB (ho ep ak he s : Int) : Bool := decide (LeP ho ep ak he) && (decide (0 ≤ s ∧ s ≤ 1000000002) && decide (he + 14 ≤ s))

set_option maxHeartbeats 1600000 in
theorem implML (ho ep ak he s : Int) (w : World) : Calls Try.prog 16 #[.agg #[.int .i64 ho, .int .i64 ep, .int .i64 ak, .int .i64 he], .int .i64 s] w fun e w' => e = .returned (.bool (mlB ho ep ak he s)) ∧ New w w' := by
  have hw := (New.refl w).alloc (.cells #[.int .i64 ho, .int .i64 ep, .int .i64 ak, .int .i64 he] 28)
  have hB : Blk (w.alloc (.cells #[.int .i64 ho, .int .i64 ep, .int .i64 ak, .int .i64 he] 28)) w.heap.size 28 #[.int .i64 ho, .int .i64 ep, .int .i64 ak, .int .i64 he] := Blk.mk _ _ _ _ rfl
  by_cases hp : LeP ho ep ak he
  case neg =>
    have hx : Hid (mlB ho ep ak he s = false) := by unfold mlB Hid; rw [decide_eq_false hp]; rfl
    have hz := lf_bad hp
    clear hp
    go_enter Try.func16, Try.ntmps16
    go_wp2_with fail
    refine (implLeF_is ho ep ak he 3 _ hz).mono ?_
    rintro e w1 ⟨rfl, hn1⟩
    go_wp2
    go_ret
    exact ⟨ret13_bool hx.out.symm, hw.trans hn1⟩
  have hz := lf_ok hp
  by_cases g : 0 ≤ s ∧ s ≤ 1000000002
  case neg =>
    have hx : Hid (mlB ho ep ak he s = false) := by unfold mlB Hid; rw [decide_eq_true hp, decide_eq_false g]; rfl
    clear hp
    go_enter Try.func16, Try.ntmps16
    go_wp2_with fail
    refine (implLeF_is ho ep ak he 0 _ hz).mono ?_
    rintro e w1 ⟨rfl, hn1⟩
    go_wp2_with fail
    refine (seen13_no _ _ g).mono ?_
    rintro e w2 ⟨rfl, rfl⟩
    go_wp2
    go_ret
    exact ⟨ret13_bool hx.out.symm, hw.trans hn1⟩
  obtain ⟨⟨p0, p1⟩, ⟨p2, p3⟩, ⟨p4, p5⟩, ⟨p6, p7⟩⟩ := hp
  have hx : Hid (mlB ho ep ak he s = decide (s < ak + 6)) := by unfold mlB Hid; rw [decide_eq_true (show LeP ho ep ak he from ⟨⟨p0, p1⟩, ⟨p2, p3⟩, ⟨p4, p5⟩, ⟨p6, p7⟩⟩), decide_eq_true g]; rfl
  go_enter Try.func16, Try.ntmps16
  go_wp2_with fail
  refine (implLeF_is ho ep ak he 0 _ hz).mono ?_
  rintro e w1 ⟨rfl, hn1⟩
  have cB := (hB.new hn1).cells
  go_wp2_with fail
  refine (seen13_yes _ _ g).mono ?_
  rintro e w2 ⟨rfl, rfl⟩
  go_wp2
  go_ret
  refine ⟨ret13_bool ?_, hw.trans hn1⟩
  rw [hx.out]
  first | rfl | (congr 1; apply propext; constructor <;> intro q <;> omega)

set_option maxHeartbeats 1600000 in
theorem specML (ho ep ak he s : Int) (w : World) : Calls Try.prog 23 #[.agg #[.int .i64 ho, .int .i64 ep, .int .i64 ak, .int .i64 he], .int .i64 s] w fun e w' => e = .returned (.bool (mlB ho ep ak he s)) ∧ New w w' := by
  have hw := (New.refl w).alloc (.cells #[.int .i64 ho, .int .i64 ep, .int .i64 ak, .int .i64 he] 28)
  have hB : Blk (w.alloc (.cells #[.int .i64 ho, .int .i64 ep, .int .i64 ak, .int .i64 he] 28)) w.heap.size 28 #[.int .i64 ho, .int .i64 ep, .int .i64 ak, .int .i64 he] := Blk.mk _ _ _ _ rfl
  by_cases hp : LeP ho ep ak he
  case neg =>
    have hx : Hid (mlB ho ep ak he s = false) := by unfold mlB Hid; rw [decide_eq_false hp]; rfl
    have hz := lf_bad hp
    clear hp
    go_enter Try.func23, Try.ntmps23
    go_wp2_with fail
    refine (specLeF_is ho ep ak he 3 _ hz).mono ?_
    rintro e w1 ⟨rfl, hn1⟩
    go_wp2
    go_ret
    exact ⟨ret13_bool hx.out.symm, hw.trans hn1⟩
  have hz := lf_ok hp
  by_cases g : 0 ≤ s ∧ s ≤ 1000000002
  case neg =>
    have hx : Hid (mlB ho ep ak he s = false) := by unfold mlB Hid; rw [decide_eq_true hp, decide_eq_false g]; rfl
    clear hp
    go_enter Try.func23, Try.ntmps23
    go_wp2_with fail
    refine (specLeF_is ho ep ak he 0 _ hz).mono ?_
    rintro e w1 ⟨rfl, hn1⟩
    go_wp2_with fail
    refine (time13_no _ _ g).mono ?_
    rintro e w2 ⟨rfl, rfl⟩
    go_wp2
    go_ret
    exact ⟨ret13_bool hx.out.symm, hw.trans hn1⟩
  obtain ⟨⟨p0, p1⟩, ⟨p2, p3⟩, ⟨p4, p5⟩, ⟨p6, p7⟩⟩ := hp
  have hx : Hid (mlB ho ep ak he s = decide (s < ak + 6)) := by unfold mlB Hid; rw [decide_eq_true (show LeP ho ep ak he from ⟨⟨p0, p1⟩, ⟨p2, p3⟩, ⟨p4, p5⟩, ⟨p6, p7⟩⟩), decide_eq_true g]; rfl
  go_enter Try.func23, Try.ntmps23
  go_wp2_with fail
  refine (specLeF_is ho ep ak he 0 _ hz).mono ?_
  rintro e w1 ⟨rfl, hn1⟩
  have cB := (hB.new hn1).cells
  go_wp2_with fail
  refine (time13_yes _ _ g).mono ?_
  rintro e w2 ⟨rfl, rfl⟩
  go_wp2
  go_ret
  refine ⟨ret13_bool ?_, hw.trans hn1⟩
  rw [hx.out]
  first | rfl | (congr 1; apply propext; constructor <;> intro q <;> omega)

set_option maxHeartbeats 1600000 in
theorem implMT (ho ep ak he s : Int) (w : World) : Calls Try.prog 17 #[.agg #[.int .i64 ho, .int .i64 ep, .int .i64 ak, .int .i64 he], .int .i64 s] w fun e w' => e = .returned (.bool (mtB ho ep ak he s)) ∧ New w w' := by
  have hw := (New.refl w).alloc (.cells #[.int .i64 ho, .int .i64 ep, .int .i64 ak, .int .i64 he] 28)
  have hB : Blk (w.alloc (.cells #[.int .i64 ho, .int .i64 ep, .int .i64 ak, .int .i64 he] 28)) w.heap.size 28 #[.int .i64 ho, .int .i64 ep, .int .i64 ak, .int .i64 he] := Blk.mk _ _ _ _ rfl
  by_cases hp : LeP ho ep ak he
  case neg =>
    have hx : Hid (mtB ho ep ak he s = false) := by unfold mtB Hid; rw [decide_eq_false hp]; rfl
    have hz := lf_bad hp
    clear hp
    go_enter Try.func17, Try.ntmps17
    go_wp2_with fail
    refine (implLeF_is ho ep ak he 3 _ hz).mono ?_
    rintro e w1 ⟨rfl, hn1⟩
    go_wp2
    go_ret
    exact ⟨ret13_bool hx.out.symm, hw.trans hn1⟩
  have hz := lf_ok hp
  by_cases g : 0 ≤ s ∧ s ≤ 1000000002
  case neg =>
    have hx : Hid (mtB ho ep ak he s = false) := by unfold mtB Hid; rw [decide_eq_true hp, decide_eq_false g]; rfl
    clear hp
    go_enter Try.func17, Try.ntmps17
    go_wp2_with fail
    refine (implLeF_is ho ep ak he 0 _ hz).mono ?_
    rintro e w1 ⟨rfl, hn1⟩
    go_wp2_with fail
    refine (seen13_no _ _ g).mono ?_
    rintro e w2 ⟨rfl, rfl⟩
    go_wp2
    go_ret
    exact ⟨ret13_bool hx.out.symm, hw.trans hn1⟩
  obtain ⟨⟨p0, p1⟩, ⟨p2, p3⟩, ⟨p4, p5⟩, ⟨p6, p7⟩⟩ := hp
  have hx : Hid (mtB ho ep ak he s = decide (he + 14 ≤ s)) := by unfold mtB Hid; rw [decide_eq_true (show LeP ho ep ak he from ⟨⟨p0, p1⟩, ⟨p2, p3⟩, ⟨p4, p5⟩, ⟨p6, p7⟩⟩), decide_eq_true g]; rfl
  go_enter Try.func17, Try.ntmps17
  go_wp2_with fail
  refine (implLeF_is ho ep ak he 0 _ hz).mono ?_
  rintro e w1 ⟨rfl, hn1⟩
  have cB := (hB.new hn1).cells
  go_wp2_with fail
  refine (seen13_yes _ _ g).mono ?_
  rintro e w2 ⟨rfl, rfl⟩
  go_wp2
  go_ret
  refine ⟨ret13_bool ?_, hw.trans hn1⟩
  rw [hx.out]
  first | rfl | (congr 1; apply propext; constructor <;> intro q <;> omega)

set_option maxHeartbeats 1600000 in
theorem sTk13 (ho ep ak he s : Int) (w : World) (hp : LeP ho ep ak he) : Calls Try.prog 50 #[.agg #[.int .i64 ho, .int .i64 ep, .int .i64 ak, .int .i64 he], .int .i64 s] w fun e w' => e = .returned (.bool (mtB ho ep ak he s)) ∧ New w w' := by
  have hw := (New.refl w).alloc (.cells #[.int .i64 ho, .int .i64 ep, .int .i64 ak, .int .i64 he] 28)
  have hB : Blk (w.alloc (.cells #[.int .i64 ho, .int .i64 ep, .int .i64 ak, .int .i64 he] 28)) w.heap.size 28 #[.int .i64 ho, .int .i64 ep, .int .i64 ak, .int .i64 he] := Blk.mk _ _ _ _ rfl
  by_cases g : 0 ≤ s ∧ s ≤ 1000000002
  case neg =>
    have hx : Hid (mtB ho ep ak he s = false) := by unfold mtB Hid; rw [decide_eq_true hp, decide_eq_false g]; rfl
    clear hp
    go_enter Try.func50, Try.ntmps50
    go_wp2_with fail
    refine (time13_no _ _ g).mono ?_
    rintro e w1 ⟨rfl, rfl⟩
    go_wp2
    go_ret
    exact ⟨ret13_bool hx.out.symm, hw⟩
  obtain ⟨⟨p0, p1⟩, ⟨p2, p3⟩, ⟨p4, p5⟩, ⟨p6, p7⟩⟩ := hp
  have hx : Hid (mtB ho ep ak he s = decide (he + 14 ≤ s)) := by unfold mtB Hid; rw [decide_eq_true (show LeP ho ep ak he from ⟨⟨p0, p1⟩, ⟨p2, p3⟩, ⟨p4, p5⟩, ⟨p6, p7⟩⟩), decide_eq_true g]; rfl
  have cB := hB.cells
  go_enter Try.func50, Try.ntmps50
  go_wp2_with fail
  refine (time13_yes _ _ g).mono ?_
  rintro e w1 ⟨rfl, rfl⟩
  go_wp2
  go_ret
  refine ⟨ret13_bool ?_, hw⟩
  rw [hx.out]
  first | rfl | (congr 1; apply propext; constructor <;> intro q <;> omega)

set_option maxHeartbeats 1600000 in
theorem specMT (ho ep ak he s : Int) (w : World) : Calls Try.prog 22 #[.agg #[.int .i64 ho, .int .i64 ep, .int .i64 ak, .int .i64 he], .int .i64 s] w fun e w' => e = .returned (.bool (mtB ho ep ak he s)) ∧ New w w' := by
  have hw := (New.refl w).alloc (.cells #[.int .i64 ho, .int .i64 ep, .int .i64 ak, .int .i64 he] 28)
  have hB : Blk (w.alloc (.cells #[.int .i64 ho, .int .i64 ep, .int .i64 ak, .int .i64 he] 28)) w.heap.size 28 #[.int .i64 ho, .int .i64 ep, .int .i64 ak, .int .i64 he] := Blk.mk _ _ _ _ rfl
  by_cases hp : LeP ho ep ak he
  case neg =>
    have hx : Hid (mtB ho ep ak he s = false) := by unfold mtB Hid; rw [decide_eq_false hp]; rfl
    have hz := lf_bad hp
    clear hp
    go_enter Try.func22, Try.ntmps22
    go_wp2_with fail
    refine (specLeF_is ho ep ak he 3 _ hz).mono ?_
    rintro e w1 ⟨rfl, hn1⟩
    go_wp2
    go_ret
    exact ⟨ret13_bool hx.out.symm, hw.trans hn1⟩
  have hz := lf_ok hp
  have hP : Hid (LeP ho ep ak he) := hp
  clear hp
  go_enter Try.func22, Try.ntmps22
  go_wp2_with fail
  refine (specLeF_is ho ep ak he 0 _ hz).mono ?_
  rintro e w1 ⟨rfl, hn1⟩
  have cB := (hB.new hn1).cells
  go_wp2_with fail
  refine (sTk13 ho ep ak he s _ hP.out).mono ?_
  rintro e w2 ⟨rfl, hn2⟩
  go_wp2
  go_ret
  exact ⟨rfl, (hw.trans hn1).trans hn2⟩

end Go.Proofs.Ytpbmbnckdmjdhaa
