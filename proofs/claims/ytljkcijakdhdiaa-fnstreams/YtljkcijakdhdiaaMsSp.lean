/- What is proved here: what the judging of a message answers, in the model, for every lists of at most 1048576 elements. -/
import Derived.Test.YtljkcijakdhdiaaMsMf
namespace Go.Proofs.Ytljkcijakdhdiaa
open Go.RowKit Go.Sort
set_option linter.unusedVariables false

theorem hold4_yes (x : Int) (w : World) (h : Hl x) : Calls Try.prog 65 #[.int .i64 x] w fun e w' => e = .returned (.bool true) ∧ w' = w := by
  by_cases h0 : x = 0
  · subst h0
    go_enter Try.func65, Try.ntmps65
    go_wp2
    go_ret
    exact ⟨rfl, rfl⟩
  · have e0 : (x == 0) = false := by simpa using h0
    have h1 : 3 ≤ x ∧ x ≤ 200 := by rcases h with h | h <;> omega
    clear h
    go_enter Try.func65, Try.ntmps65
    go_wp2_with fail
    refine (in_yes _ _ _ _ h1).mono ?_
    rintro e w1 ⟨rfl, rfl⟩
    go_wp2
    go_ret
    exact ⟨rfl, rfl⟩

theorem hold4_no (x : Int) (w : World) (h : ¬ Hl x) : Calls Try.prog 65 #[.int .i64 x] w fun e w' => e = .returned (.bool false) ∧ w' = w := by
  have h0 : ¬ x = 0 := fun e => h (.inl e)
  have e0 : (x == 0) = false := by simpa using h0
  have h1 : x < 3 ∨ 200 < x := by
    by_cases q : 3 ≤ x ∧ x ≤ 200
    · exact absurd (.inr q) h
    · omega
  clear h
  go_enter Try.func65, Try.ntmps65
  go_wp2_with fail
  refine (in_no _ _ _ _ h1).mono ?_
  rintro e w1 ⟨rfl, rfl⟩
  go_wp2
  go_ret
  exact ⟨rfl, rfl⟩

set_option maxHeartbeats 1600000 in
theorem zero4 (ga a ra : Option Addr) (gn gc n c rn rc : Nat) (has : Bool) (o nx md lc : Int) (gs rs : List (Int × Int)) (xs : List Int) (v : Bool) (w : World) (hgn : gs.length = gn) (hn : xs.length = n) (hrn : rs.length = rn) (hm1 : gn ≤ 1048576) (hm2 : n ≤ 1048576) (hm3 : rn ≤ 1048576) (hv : decide (ZuP gs has o xs nx md lc rs) = v) :
    Calls Try.prog 91 #[.agg #[.slice ga gn gc, .bool has, .int .i64 o, .slice a n c, .int .i64 nx, .int .i64 md, .int .i64 lc, .slice ra rn rc]] w fun e w' => e = .returned (.bool v) ∧ New w w' := by
  have hw := (New.refl w).alloc (.cells #[.slice ga gn gc, .bool has, .int .i64 o, .slice a n c, .int .i64 nx, .int .i64 md, .int .i64 lc, .slice ra rn rc] 49)
  have HX : Hid (xs.length = n) := hn
  have HV : Hid (decide (gn = 0 ∧ rn = 0 ∧ has = false ∧ ZaP o xs nx md lc) = v) := by unfold Hid; subst hgn; subst hrn; exact hv
  clear hv hgn hrn hn
  by_cases g1 : gn = 0
  case neg =>
    have hx : Hid (v = false) := by unfold Hid; rw [← HV.out]; simp only [decide_eq_false_iff_not]; intro q; exact g1 q.1
    have e1 : ((gn : Int) == 0) = false := by simpa using g1
    clear g1
    go_enter Try.func91, Try.ntmps91
    go_wp2
    go_ret
    exact ⟨ret_bool hx.out.symm, hw⟩
  by_cases g2 : rn = 0
  case neg =>
    have hx : Hid (v = false) := by unfold Hid; rw [← HV.out]; simp only [decide_eq_false_iff_not]; intro q; exact g2 q.2.1
    have e2 : ((rn : Int) == 0) = false := by simpa using g2
    clear g2
    subst g1
    go_enter Try.func91, Try.ntmps91
    go_wp2
    go_ret
    exact ⟨ret_bool hx.out.symm, hw⟩
  subst g1
  subst g2
  cases has with
  | true =>
    have hx : Hid (v = false) := by unfold Hid; rw [← HV.out]; simp only [decide_eq_false_iff_not]; intro q; exact absurd q.2.2.1 (by simp)
    go_enter Try.func91, Try.ntmps91
    go_wp2
    go_ret
    exact ⟨ret_bool hx.out.symm, hw⟩
  | false =>
    have hx : decide (ZaP o xs nx md lc) = v := by rw [← HV.out]; apply decide_eq_decide.2; simp only [true_and]
    go_enter Try.func91, Try.ntmps91
    go_wp2_with fail
    refine (zero_any o nx md lc a n c xs v _ HX.out hm2 hx).mono ?_
    rintro e w1 ⟨rfl, hn1⟩
    go_wp2
    go_ret
    exact ⟨rfl, hw.trans hn1⟩

set_option maxHeartbeats 3200000 in
theorem bare1 (ga a ra : Option Addr) (gn gc n c rn rc : Nat) (has : Bool) (o nx md lc : Int) (gs rs : List (Int × Int)) (xs : List Int) (sa ho si wh su : Int) (v : Bool) (w : World) (hgn : gs.length = gn) (hn : xs.length = n) (hrn : rs.length = rn) (hm1 : gn ≤ 1048576) (hm2 : n ≤ 1048576) (hm3 : rn ≤ 1048576) (hv : decide (wh = 0 ∧ su = 0 ∧ ZuP gs has o xs nx md lc rs) = v) :
    Calls Try.prog 75 #[.agg #[.int .i64 1, .int .i64 sa, .int .i64 ho, .int .i64 si, .int .i64 wh, .int .i64 su, .slice ga gn gc, .bool has, .int .i64 o, .slice a n c, .int .i64 nx, .int .i64 md, .int .i64 lc, .slice ra rn rc]] w fun e w' => e = .returned (.bool v) ∧ New w w' := by
  have hw := (New.refl w).alloc (.cells #[.int .i64 1, .int .i64 sa, .int .i64 ho, .int .i64 si, .int .i64 wh, .int .i64 su, .slice ga gn gc, .bool has, .int .i64 o, .slice a n c, .int .i64 nx, .int .i64 md, .int .i64 lc, .slice ra rn rc] 51)
  have HG : Hid (gs.length = gn) := hgn
  have HX : Hid (xs.length = n) := hn
  have HR : Hid (rs.length = rn) := hrn
  have HV : Hid (decide (wh = 0 ∧ su = 0 ∧ ZuP gs has o xs nx md lc rs) = v) := hv
  clear hgn hn hrn hv
  by_cases g_sa : sa = 0
  case neg =>
    by_cases g_wh : wh = 0
    case neg =>
      have hx : Hid (v = false) := by unfold Hid; rw [← HV.out]; simp only [decide_eq_false_iff_not]; intro q; exact g_wh q.1
      have e_sa : (sa == 0) = false := by simpa using g_sa
      clear g_sa
      have e_wh : (wh == 0) = false := by simpa using g_wh
      clear g_wh
      clear HV
      go_enter Try.func75, Try.ntmps75
      go_wp2
      go_ret
      exact ⟨ret_bool hx.out.symm, hw⟩
    by_cases g_su : su = 0
    case neg =>
      have hx : Hid (v = false) := by unfold Hid; rw [← HV.out]; simp only [decide_eq_false_iff_not]; intro q; exact g_su q.2.1
      have e_sa : (sa == 0) = false := by simpa using g_sa
      clear g_sa
      have e_wh : (wh == 0) = true := by simpa using g_wh
      have e_su : (su == 0) = false := by simpa using g_su
      clear g_wh
      clear g_su
      clear HV
      go_enter Try.func75, Try.ntmps75
      go_wp2
      go_ret
      exact ⟨ret_bool hx.out.symm, hw⟩
    have hx : decide (ZuP gs has o xs nx md lc rs) = v := by rw [← HV.out]; apply decide_eq_decide.2; simp only [g_wh, g_su, true_and]
    have HZ : Hid (decide (ZuP gs has o xs nx md lc rs) = v) := hx
    clear hx
    have e_sa : (sa == 0) = false := by simpa using g_sa
    clear g_sa
    have e_wh : (wh == 0) = true := by simpa using g_wh
    have e_su : (su == 0) = true := by simpa using g_su
    clear g_wh
    clear g_su
    clear HV
    go_enter Try.func75, Try.ntmps75
    go_wp2_with fail
    refine (zero4 ga a ra gn gc n c rn rc has o nx md lc gs rs xs v _ HG.out HX.out HR.out hm1 hm2 hm3 HZ.out).mono ?_
    rintro e w1 ⟨rfl, hn1⟩
    go_wp2
    go_ret
    exact ⟨rfl, hw.trans hn1⟩
  by_cases g_ho : ho = 0
  case neg =>
    by_cases g_wh : wh = 0
    case neg =>
      have hx : Hid (v = false) := by unfold Hid; rw [← HV.out]; simp only [decide_eq_false_iff_not]; intro q; exact g_wh q.1
      have e_sa : (sa == 0) = true := by simpa using g_sa
      have e_ho : (ho == 0) = false := by simpa using g_ho
      clear g_sa
      clear g_ho
      have e_wh : (wh == 0) = false := by simpa using g_wh
      clear g_wh
      clear HV
      go_enter Try.func75, Try.ntmps75
      go_wp2
      go_ret
      exact ⟨ret_bool hx.out.symm, hw⟩
    by_cases g_su : su = 0
    case neg =>
      have hx : Hid (v = false) := by unfold Hid; rw [← HV.out]; simp only [decide_eq_false_iff_not]; intro q; exact g_su q.2.1
      have e_sa : (sa == 0) = true := by simpa using g_sa
      have e_ho : (ho == 0) = false := by simpa using g_ho
      clear g_sa
      clear g_ho
      have e_wh : (wh == 0) = true := by simpa using g_wh
      have e_su : (su == 0) = false := by simpa using g_su
      clear g_wh
      clear g_su
      clear HV
      go_enter Try.func75, Try.ntmps75
      go_wp2
      go_ret
      exact ⟨ret_bool hx.out.symm, hw⟩
    have hx : decide (ZuP gs has o xs nx md lc rs) = v := by rw [← HV.out]; apply decide_eq_decide.2; simp only [g_wh, g_su, true_and]
    have HZ : Hid (decide (ZuP gs has o xs nx md lc rs) = v) := hx
    clear hx
    have e_sa : (sa == 0) = true := by simpa using g_sa
    have e_ho : (ho == 0) = false := by simpa using g_ho
    clear g_sa
    clear g_ho
    have e_wh : (wh == 0) = true := by simpa using g_wh
    have e_su : (su == 0) = true := by simpa using g_su
    clear g_wh
    clear g_su
    clear HV
    go_enter Try.func75, Try.ntmps75
    go_wp2_with fail
    refine (zero4 ga a ra gn gc n c rn rc has o nx md lc gs rs xs v _ HG.out HX.out HR.out hm1 hm2 hm3 HZ.out).mono ?_
    rintro e w1 ⟨rfl, hn1⟩
    go_wp2
    go_ret
    exact ⟨rfl, hw.trans hn1⟩
  by_cases g_si : si = 0
  case neg =>
    by_cases g_wh : wh = 0
    case neg =>
      have hx : Hid (v = false) := by unfold Hid; rw [← HV.out]; simp only [decide_eq_false_iff_not]; intro q; exact g_wh q.1
      have e_sa : (sa == 0) = true := by simpa using g_sa
      have e_ho : (ho == 0) = true := by simpa using g_ho
      have e_si : (si == 0) = false := by simpa using g_si
      clear g_sa
      clear g_ho
      clear g_si
      have e_wh : (wh == 0) = false := by simpa using g_wh
      clear g_wh
      clear HV
      go_enter Try.func75, Try.ntmps75
      go_wp2
      go_ret
      exact ⟨ret_bool hx.out.symm, hw⟩
    by_cases g_su : su = 0
    case neg =>
      have hx : Hid (v = false) := by unfold Hid; rw [← HV.out]; simp only [decide_eq_false_iff_not]; intro q; exact g_su q.2.1
      have e_sa : (sa == 0) = true := by simpa using g_sa
      have e_ho : (ho == 0) = true := by simpa using g_ho
      have e_si : (si == 0) = false := by simpa using g_si
      clear g_sa
      clear g_ho
      clear g_si
      have e_wh : (wh == 0) = true := by simpa using g_wh
      have e_su : (su == 0) = false := by simpa using g_su
      clear g_wh
      clear g_su
      clear HV
      go_enter Try.func75, Try.ntmps75
      go_wp2
      go_ret
      exact ⟨ret_bool hx.out.symm, hw⟩
    have hx : decide (ZuP gs has o xs nx md lc rs) = v := by rw [← HV.out]; apply decide_eq_decide.2; simp only [g_wh, g_su, true_and]
    have HZ : Hid (decide (ZuP gs has o xs nx md lc rs) = v) := hx
    clear hx
    have e_sa : (sa == 0) = true := by simpa using g_sa
    have e_ho : (ho == 0) = true := by simpa using g_ho
    have e_si : (si == 0) = false := by simpa using g_si
    clear g_sa
    clear g_ho
    clear g_si
    have e_wh : (wh == 0) = true := by simpa using g_wh
    have e_su : (su == 0) = true := by simpa using g_su
    clear g_wh
    clear g_su
    clear HV
    go_enter Try.func75, Try.ntmps75
    go_wp2_with fail
    refine (zero4 ga a ra gn gc n c rn rc has o nx md lc gs rs xs v _ HG.out HX.out HR.out hm1 hm2 hm3 HZ.out).mono ?_
    rintro e w1 ⟨rfl, hn1⟩
    go_wp2
    go_ret
    exact ⟨rfl, hw.trans hn1⟩
  by_cases g_wh : wh = 0
  case neg =>
    have hx : Hid (v = false) := by unfold Hid; rw [← HV.out]; simp only [decide_eq_false_iff_not]; intro q; exact g_wh q.1
    have e_sa : (sa == 0) = true := by simpa using g_sa
    have e_ho : (ho == 0) = true := by simpa using g_ho
    have e_si : (si == 0) = true := by simpa using g_si
    clear g_sa
    clear g_ho
    clear g_si
    have e_wh : (wh == 0) = false := by simpa using g_wh
    clear g_wh
    clear HV
    go_enter Try.func75, Try.ntmps75
    go_wp2
    go_ret
    exact ⟨ret_bool hx.out.symm, hw⟩
  by_cases g_su : su = 0
  case neg =>
    have hx : Hid (v = false) := by unfold Hid; rw [← HV.out]; simp only [decide_eq_false_iff_not]; intro q; exact g_su q.2.1
    have e_sa : (sa == 0) = true := by simpa using g_sa
    have e_ho : (ho == 0) = true := by simpa using g_ho
    have e_si : (si == 0) = true := by simpa using g_si
    clear g_sa
    clear g_ho
    clear g_si
    have e_wh : (wh == 0) = true := by simpa using g_wh
    have e_su : (su == 0) = false := by simpa using g_su
    clear g_wh
    clear g_su
    clear HV
    go_enter Try.func75, Try.ntmps75
    go_wp2
    go_ret
    exact ⟨ret_bool hx.out.symm, hw⟩
  have hx : decide (ZuP gs has o xs nx md lc rs) = v := by rw [← HV.out]; apply decide_eq_decide.2; simp only [g_wh, g_su, true_and]
  have HZ : Hid (decide (ZuP gs has o xs nx md lc rs) = v) := hx
  clear hx
  have e_sa : (sa == 0) = true := by simpa using g_sa
  have e_ho : (ho == 0) = true := by simpa using g_ho
  have e_si : (si == 0) = true := by simpa using g_si
  clear g_sa
  clear g_ho
  clear g_si
  have e_wh : (wh == 0) = true := by simpa using g_wh
  have e_su : (su == 0) = true := by simpa using g_su
  clear g_wh
  clear g_su
  clear HV
  go_enter Try.func75, Try.ntmps75
  go_wp2_with fail
  refine (zero4 ga a ra gn gc n c rn rc has o nx md lc gs rs xs v _ HG.out HX.out HR.out hm1 hm2 hm3 HZ.out).mono ?_
  rintro e w1 ⟨rfl, hn1⟩
  go_wp2
  go_ret
  exact ⟨rfl, hw.trans hn1⟩

set_option maxHeartbeats 3200000 in
theorem bare2 (ga a ra : Option Addr) (gn gc n c rn rc : Nat) (has : Bool) (o nx md lc : Int) (gs rs : List (Int × Int)) (xs : List Int) (sa ho si wh su : Int) (v : Bool) (w : World) (hgn : gs.length = gn) (hn : xs.length = n) (hrn : rs.length = rn) (hm1 : gn ≤ 1048576) (hm2 : n ≤ 1048576) (hm3 : rn ≤ 1048576) (hv : decide (sa = 0 ∧ ho = 0 ∧ si = 0 ∧ wh = 0 ∧ su = 0) = v) :
    Calls Try.prog 75 #[.agg #[.int .i64 2, .int .i64 sa, .int .i64 ho, .int .i64 si, .int .i64 wh, .int .i64 su, .slice ga gn gc, .bool has, .int .i64 o, .slice a n c, .int .i64 nx, .int .i64 md, .int .i64 lc, .slice ra rn rc]] w fun e w' => e = .returned (.bool v) ∧ New w w' := by
  have hw := (New.refl w).alloc (.cells #[.int .i64 2, .int .i64 sa, .int .i64 ho, .int .i64 si, .int .i64 wh, .int .i64 su, .slice ga gn gc, .bool has, .int .i64 o, .slice a n c, .int .i64 nx, .int .i64 md, .int .i64 lc, .slice ra rn rc] 51)
  have HG : Hid (gs.length = gn) := hgn
  have HX : Hid (xs.length = n) := hn
  have HR : Hid (rs.length = rn) := hrn
  have HV : Hid (decide (sa = 0 ∧ ho = 0 ∧ si = 0 ∧ wh = 0 ∧ su = 0) = v) := hv
  clear hgn hn hrn hv
  by_cases g_sa : sa = 0
  case neg =>
    by_cases g_wh : wh = 0
    case neg =>
      have hx : Hid (v = false) := by unfold Hid; rw [← HV.out]; simp only [decide_eq_false_iff_not]; intro q; exact g_sa q.1
      have e_sa : (sa == 0) = false := by simpa using g_sa
      clear g_sa
      have e_wh : (wh == 0) = false := by simpa using g_wh
      clear g_wh
      clear HV
      go_enter Try.func75, Try.ntmps75
      go_wp2
      go_ret
      exact ⟨ret_bool hx.out.symm, hw⟩
    by_cases g_su : su = 0
    case neg =>
      have hx : Hid (v = false) := by unfold Hid; rw [← HV.out]; simp only [decide_eq_false_iff_not]; intro q; exact g_sa q.1
      have e_sa : (sa == 0) = false := by simpa using g_sa
      clear g_sa
      have e_wh : (wh == 0) = true := by simpa using g_wh
      have e_su : (su == 0) = false := by simpa using g_su
      clear g_wh
      clear g_su
      clear HV
      go_enter Try.func75, Try.ntmps75
      go_wp2
      go_ret
      exact ⟨ret_bool hx.out.symm, hw⟩
    have hx : Hid (v = false) := by unfold Hid; rw [← HV.out]; simp only [decide_eq_false_iff_not]; intro q; exact g_sa q.1
    have e_sa : (sa == 0) = false := by simpa using g_sa
    clear g_sa
    have e_wh : (wh == 0) = true := by simpa using g_wh
    have e_su : (su == 0) = true := by simpa using g_su
    clear g_wh
    clear g_su
    clear HV
    go_enter Try.func75, Try.ntmps75
    go_wp2
    go_ret
    exact ⟨ret_bool hx.out.symm, hw⟩
  by_cases g_ho : ho = 0
  case neg =>
    by_cases g_wh : wh = 0
    case neg =>
      have hx : Hid (v = false) := by unfold Hid; rw [← HV.out]; simp only [decide_eq_false_iff_not]; intro q; exact g_ho q.2.1
      have e_sa : (sa == 0) = true := by simpa using g_sa
      have e_ho : (ho == 0) = false := by simpa using g_ho
      clear g_sa
      clear g_ho
      have e_wh : (wh == 0) = false := by simpa using g_wh
      clear g_wh
      clear HV
      go_enter Try.func75, Try.ntmps75
      go_wp2
      go_ret
      exact ⟨ret_bool hx.out.symm, hw⟩
    by_cases g_su : su = 0
    case neg =>
      have hx : Hid (v = false) := by unfold Hid; rw [← HV.out]; simp only [decide_eq_false_iff_not]; intro q; exact g_ho q.2.1
      have e_sa : (sa == 0) = true := by simpa using g_sa
      have e_ho : (ho == 0) = false := by simpa using g_ho
      clear g_sa
      clear g_ho
      have e_wh : (wh == 0) = true := by simpa using g_wh
      have e_su : (su == 0) = false := by simpa using g_su
      clear g_wh
      clear g_su
      clear HV
      go_enter Try.func75, Try.ntmps75
      go_wp2
      go_ret
      exact ⟨ret_bool hx.out.symm, hw⟩
    have hx : Hid (v = false) := by unfold Hid; rw [← HV.out]; simp only [decide_eq_false_iff_not]; intro q; exact g_ho q.2.1
    have e_sa : (sa == 0) = true := by simpa using g_sa
    have e_ho : (ho == 0) = false := by simpa using g_ho
    clear g_sa
    clear g_ho
    have e_wh : (wh == 0) = true := by simpa using g_wh
    have e_su : (su == 0) = true := by simpa using g_su
    clear g_wh
    clear g_su
    clear HV
    go_enter Try.func75, Try.ntmps75
    go_wp2
    go_ret
    exact ⟨ret_bool hx.out.symm, hw⟩
  by_cases g_si : si = 0
  case neg =>
    by_cases g_wh : wh = 0
    case neg =>
      have hx : Hid (v = false) := by unfold Hid; rw [← HV.out]; simp only [decide_eq_false_iff_not]; intro q; exact g_si q.2.2.1
      have e_sa : (sa == 0) = true := by simpa using g_sa
      have e_ho : (ho == 0) = true := by simpa using g_ho
      have e_si : (si == 0) = false := by simpa using g_si
      clear g_sa
      clear g_ho
      clear g_si
      have e_wh : (wh == 0) = false := by simpa using g_wh
      clear g_wh
      clear HV
      go_enter Try.func75, Try.ntmps75
      go_wp2
      go_ret
      exact ⟨ret_bool hx.out.symm, hw⟩
    by_cases g_su : su = 0
    case neg =>
      have hx : Hid (v = false) := by unfold Hid; rw [← HV.out]; simp only [decide_eq_false_iff_not]; intro q; exact g_si q.2.2.1
      have e_sa : (sa == 0) = true := by simpa using g_sa
      have e_ho : (ho == 0) = true := by simpa using g_ho
      have e_si : (si == 0) = false := by simpa using g_si
      clear g_sa
      clear g_ho
      clear g_si
      have e_wh : (wh == 0) = true := by simpa using g_wh
      have e_su : (su == 0) = false := by simpa using g_su
      clear g_wh
      clear g_su
      clear HV
      go_enter Try.func75, Try.ntmps75
      go_wp2
      go_ret
      exact ⟨ret_bool hx.out.symm, hw⟩
    have hx : Hid (v = false) := by unfold Hid; rw [← HV.out]; simp only [decide_eq_false_iff_not]; intro q; exact g_si q.2.2.1
    have e_sa : (sa == 0) = true := by simpa using g_sa
    have e_ho : (ho == 0) = true := by simpa using g_ho
    have e_si : (si == 0) = false := by simpa using g_si
    clear g_sa
    clear g_ho
    clear g_si
    have e_wh : (wh == 0) = true := by simpa using g_wh
    have e_su : (su == 0) = true := by simpa using g_su
    clear g_wh
    clear g_su
    clear HV
    go_enter Try.func75, Try.ntmps75
    go_wp2
    go_ret
    exact ⟨ret_bool hx.out.symm, hw⟩
  by_cases g_wh : wh = 0
  case neg =>
    have hx : Hid (v = false) := by unfold Hid; rw [← HV.out]; simp only [decide_eq_false_iff_not]; intro q; exact g_wh q.2.2.2.1
    have e_sa : (sa == 0) = true := by simpa using g_sa
    have e_ho : (ho == 0) = true := by simpa using g_ho
    have e_si : (si == 0) = true := by simpa using g_si
    clear g_sa
    clear g_ho
    clear g_si
    have e_wh : (wh == 0) = false := by simpa using g_wh
    clear g_wh
    clear HV
    go_enter Try.func75, Try.ntmps75
    go_wp2
    go_ret
    exact ⟨ret_bool hx.out.symm, hw⟩
  by_cases g_su : su = 0
  case neg =>
    have hx : Hid (v = false) := by unfold Hid; rw [← HV.out]; simp only [decide_eq_false_iff_not]; intro q; exact g_su q.2.2.2.2
    have e_sa : (sa == 0) = true := by simpa using g_sa
    have e_ho : (ho == 0) = true := by simpa using g_ho
    have e_si : (si == 0) = true := by simpa using g_si
    clear g_sa
    clear g_ho
    clear g_si
    have e_wh : (wh == 0) = true := by simpa using g_wh
    have e_su : (su == 0) = false := by simpa using g_su
    clear g_wh
    clear g_su
    clear HV
    go_enter Try.func75, Try.ntmps75
    go_wp2
    go_ret
    exact ⟨ret_bool hx.out.symm, hw⟩
  have hx : Hid (v = true) := by unfold Hid; rw [← HV.out]; simp only [decide_eq_true_eq]; exact ⟨g_sa, g_ho, g_si, g_wh, g_su⟩
  have e_sa : (sa == 0) = true := by simpa using g_sa
  have e_ho : (ho == 0) = true := by simpa using g_ho
  have e_si : (si == 0) = true := by simpa using g_si
  clear g_sa
  clear g_ho
  clear g_si
  have e_wh : (wh == 0) = true := by simpa using g_wh
  have e_su : (su == 0) = true := by simpa using g_su
  clear g_wh
  clear g_su
  clear HV
  go_enter Try.func75, Try.ntmps75
  go_wp2
  go_ret
  exact ⟨ret_bool hx.out.symm, hw⟩

set_option maxHeartbeats 3200000 in
theorem bare3 (ga a ra : Option Addr) (gn gc n c rn rc : Nat) (has : Bool) (o nx md lc : Int) (gs rs : List (Int × Int)) (xs : List Int) (sa ho si wh su : Int) (v : Bool) (w : World) (hgn : gs.length = gn) (hn : xs.length = n) (hrn : rs.length = rn) (hm1 : gn ≤ 1048576) (hm2 : n ≤ 1048576) (hm3 : rn ≤ 1048576) (hv : decide (sa = 0 ∧ ho = 0 ∧ si = 0 ∧ ZuP gs has o xs nx md lc rs) = v) :
    Calls Try.prog 75 #[.agg #[.int .i64 3, .int .i64 sa, .int .i64 ho, .int .i64 si, .int .i64 wh, .int .i64 su, .slice ga gn gc, .bool has, .int .i64 o, .slice a n c, .int .i64 nx, .int .i64 md, .int .i64 lc, .slice ra rn rc]] w fun e w' => e = .returned (.bool v) ∧ New w w' := by
  have hw := (New.refl w).alloc (.cells #[.int .i64 3, .int .i64 sa, .int .i64 ho, .int .i64 si, .int .i64 wh, .int .i64 su, .slice ga gn gc, .bool has, .int .i64 o, .slice a n c, .int .i64 nx, .int .i64 md, .int .i64 lc, .slice ra rn rc] 51)
  have HG : Hid (gs.length = gn) := hgn
  have HX : Hid (xs.length = n) := hn
  have HR : Hid (rs.length = rn) := hrn
  have HV : Hid (decide (sa = 0 ∧ ho = 0 ∧ si = 0 ∧ ZuP gs has o xs nx md lc rs) = v) := hv
  clear hgn hn hrn hv
  by_cases g_sa : sa = 0
  case neg =>
    by_cases g_wh : wh = 0
    case neg =>
      have hx : Hid (v = false) := by unfold Hid; rw [← HV.out]; simp only [decide_eq_false_iff_not]; intro q; exact g_sa q.1
      have e_sa : (sa == 0) = false := by simpa using g_sa
      clear g_sa
      have e_wh : (wh == 0) = false := by simpa using g_wh
      clear g_wh
      clear HV
      go_enter Try.func75, Try.ntmps75
      go_wp2
      go_ret
      exact ⟨ret_bool hx.out.symm, hw⟩
    by_cases g_su : su = 0
    case neg =>
      have hx : Hid (v = false) := by unfold Hid; rw [← HV.out]; simp only [decide_eq_false_iff_not]; intro q; exact g_sa q.1
      have e_sa : (sa == 0) = false := by simpa using g_sa
      clear g_sa
      have e_wh : (wh == 0) = true := by simpa using g_wh
      have e_su : (su == 0) = false := by simpa using g_su
      clear g_wh
      clear g_su
      clear HV
      go_enter Try.func75, Try.ntmps75
      go_wp2
      go_ret
      exact ⟨ret_bool hx.out.symm, hw⟩
    have hx : Hid (v = false) := by unfold Hid; rw [← HV.out]; simp only [decide_eq_false_iff_not]; intro q; exact g_sa q.1
    have e_sa : (sa == 0) = false := by simpa using g_sa
    clear g_sa
    have e_wh : (wh == 0) = true := by simpa using g_wh
    have e_su : (su == 0) = true := by simpa using g_su
    clear g_wh
    clear g_su
    clear HV
    go_enter Try.func75, Try.ntmps75
    go_wp2
    go_ret
    exact ⟨ret_bool hx.out.symm, hw⟩
  by_cases g_ho : ho = 0
  case neg =>
    by_cases g_wh : wh = 0
    case neg =>
      have hx : Hid (v = false) := by unfold Hid; rw [← HV.out]; simp only [decide_eq_false_iff_not]; intro q; exact g_ho q.2.1
      have e_sa : (sa == 0) = true := by simpa using g_sa
      have e_ho : (ho == 0) = false := by simpa using g_ho
      clear g_sa
      clear g_ho
      have e_wh : (wh == 0) = false := by simpa using g_wh
      clear g_wh
      clear HV
      go_enter Try.func75, Try.ntmps75
      go_wp2
      go_ret
      exact ⟨ret_bool hx.out.symm, hw⟩
    by_cases g_su : su = 0
    case neg =>
      have hx : Hid (v = false) := by unfold Hid; rw [← HV.out]; simp only [decide_eq_false_iff_not]; intro q; exact g_ho q.2.1
      have e_sa : (sa == 0) = true := by simpa using g_sa
      have e_ho : (ho == 0) = false := by simpa using g_ho
      clear g_sa
      clear g_ho
      have e_wh : (wh == 0) = true := by simpa using g_wh
      have e_su : (su == 0) = false := by simpa using g_su
      clear g_wh
      clear g_su
      clear HV
      go_enter Try.func75, Try.ntmps75
      go_wp2
      go_ret
      exact ⟨ret_bool hx.out.symm, hw⟩
    have hx : Hid (v = false) := by unfold Hid; rw [← HV.out]; simp only [decide_eq_false_iff_not]; intro q; exact g_ho q.2.1
    have e_sa : (sa == 0) = true := by simpa using g_sa
    have e_ho : (ho == 0) = false := by simpa using g_ho
    clear g_sa
    clear g_ho
    have e_wh : (wh == 0) = true := by simpa using g_wh
    have e_su : (su == 0) = true := by simpa using g_su
    clear g_wh
    clear g_su
    clear HV
    go_enter Try.func75, Try.ntmps75
    go_wp2
    go_ret
    exact ⟨ret_bool hx.out.symm, hw⟩
  by_cases g_si : si = 0
  case neg =>
    by_cases g_wh : wh = 0
    case neg =>
      have hx : Hid (v = false) := by unfold Hid; rw [← HV.out]; simp only [decide_eq_false_iff_not]; intro q; exact g_si q.2.2.1
      have e_sa : (sa == 0) = true := by simpa using g_sa
      have e_ho : (ho == 0) = true := by simpa using g_ho
      have e_si : (si == 0) = false := by simpa using g_si
      clear g_sa
      clear g_ho
      clear g_si
      have e_wh : (wh == 0) = false := by simpa using g_wh
      clear g_wh
      clear HV
      go_enter Try.func75, Try.ntmps75
      go_wp2
      go_ret
      exact ⟨ret_bool hx.out.symm, hw⟩
    by_cases g_su : su = 0
    case neg =>
      have hx : Hid (v = false) := by unfold Hid; rw [← HV.out]; simp only [decide_eq_false_iff_not]; intro q; exact g_si q.2.2.1
      have e_sa : (sa == 0) = true := by simpa using g_sa
      have e_ho : (ho == 0) = true := by simpa using g_ho
      have e_si : (si == 0) = false := by simpa using g_si
      clear g_sa
      clear g_ho
      clear g_si
      have e_wh : (wh == 0) = true := by simpa using g_wh
      have e_su : (su == 0) = false := by simpa using g_su
      clear g_wh
      clear g_su
      clear HV
      go_enter Try.func75, Try.ntmps75
      go_wp2
      go_ret
      exact ⟨ret_bool hx.out.symm, hw⟩
    have hx : Hid (v = false) := by unfold Hid; rw [← HV.out]; simp only [decide_eq_false_iff_not]; intro q; exact g_si q.2.2.1
    have e_sa : (sa == 0) = true := by simpa using g_sa
    have e_ho : (ho == 0) = true := by simpa using g_ho
    have e_si : (si == 0) = false := by simpa using g_si
    clear g_sa
    clear g_ho
    clear g_si
    have e_wh : (wh == 0) = true := by simpa using g_wh
    have e_su : (su == 0) = true := by simpa using g_su
    clear g_wh
    clear g_su
    clear HV
    go_enter Try.func75, Try.ntmps75
    go_wp2
    go_ret
    exact ⟨ret_bool hx.out.symm, hw⟩
  by_cases g_wh : wh = 0
  case neg =>
    have hx : decide (ZuP gs has o xs nx md lc rs) = v := by rw [← HV.out]; apply decide_eq_decide.2; simp only [g_sa, g_ho, g_si, true_and]
    have HZ : Hid (decide (ZuP gs has o xs nx md lc rs) = v) := hx
    clear hx
    have e_sa : (sa == 0) = true := by simpa using g_sa
    have e_ho : (ho == 0) = true := by simpa using g_ho
    have e_si : (si == 0) = true := by simpa using g_si
    clear g_sa
    clear g_ho
    clear g_si
    have e_wh : (wh == 0) = false := by simpa using g_wh
    clear g_wh
    clear HV
    go_enter Try.func75, Try.ntmps75
    go_wp2_with fail
    refine (zero4 ga a ra gn gc n c rn rc has o nx md lc gs rs xs v _ HG.out HX.out HR.out hm1 hm2 hm3 HZ.out).mono ?_
    rintro e w1 ⟨rfl, hn1⟩
    go_wp2
    go_ret
    exact ⟨rfl, hw.trans hn1⟩
  by_cases g_su : su = 0
  case neg =>
    have hx : decide (ZuP gs has o xs nx md lc rs) = v := by rw [← HV.out]; apply decide_eq_decide.2; simp only [g_sa, g_ho, g_si, true_and]
    have HZ : Hid (decide (ZuP gs has o xs nx md lc rs) = v) := hx
    clear hx
    have e_sa : (sa == 0) = true := by simpa using g_sa
    have e_ho : (ho == 0) = true := by simpa using g_ho
    have e_si : (si == 0) = true := by simpa using g_si
    clear g_sa
    clear g_ho
    clear g_si
    have e_wh : (wh == 0) = true := by simpa using g_wh
    have e_su : (su == 0) = false := by simpa using g_su
    clear g_wh
    clear g_su
    clear HV
    go_enter Try.func75, Try.ntmps75
    go_wp2_with fail
    refine (zero4 ga a ra gn gc n c rn rc has o nx md lc gs rs xs v _ HG.out HX.out HR.out hm1 hm2 hm3 HZ.out).mono ?_
    rintro e w1 ⟨rfl, hn1⟩
    go_wp2
    go_ret
    exact ⟨rfl, hw.trans hn1⟩
  have hx : decide (ZuP gs has o xs nx md lc rs) = v := by rw [← HV.out]; apply decide_eq_decide.2; simp only [g_sa, g_ho, g_si, true_and]
  have HZ : Hid (decide (ZuP gs has o xs nx md lc rs) = v) := hx
  clear hx
  have e_sa : (sa == 0) = true := by simpa using g_sa
  have e_ho : (ho == 0) = true := by simpa using g_ho
  have e_si : (si == 0) = true := by simpa using g_si
  clear g_sa
  clear g_ho
  clear g_si
  have e_wh : (wh == 0) = true := by simpa using g_wh
  have e_su : (su == 0) = true := by simpa using g_su
  clear g_wh
  clear g_su
  clear HV
  go_enter Try.func75, Try.ntmps75
  go_wp2_with fail
  refine (zero4 ga a ra gn gc n c rn rc has o nx md lc gs rs xs v _ HG.out HX.out HR.out hm1 hm2 hm3 HZ.out).mono ?_
  rintro e w1 ⟨rfl, hn1⟩
  go_wp2
  go_ret
  exact ⟨rfl, hw.trans hn1⟩

set_option maxHeartbeats 3200000 in
theorem bare4 (ga a ra : Option Addr) (gn gc n c rn rc : Nat) (has : Bool) (o nx md lc : Int) (gs rs : List (Int × Int)) (xs : List Int) (sa ho si wh su : Int) (v : Bool) (w : World) (hgn : gs.length = gn) (hn : xs.length = n) (hrn : rs.length = rn) (hm1 : gn ≤ 1048576) (hm2 : n ≤ 1048576) (hm3 : rn ≤ 1048576) (hv : decide (sa = 0 ∧ ho = 0 ∧ si = 0 ∧ wh = 0 ∧ su = 0 ∧ ZuP gs has o xs nx md lc rs) = v) :
    Calls Try.prog 75 #[.agg #[.int .i64 4, .int .i64 sa, .int .i64 ho, .int .i64 si, .int .i64 wh, .int .i64 su, .slice ga gn gc, .bool has, .int .i64 o, .slice a n c, .int .i64 nx, .int .i64 md, .int .i64 lc, .slice ra rn rc]] w fun e w' => e = .returned (.bool v) ∧ New w w' := by
  have hw := (New.refl w).alloc (.cells #[.int .i64 4, .int .i64 sa, .int .i64 ho, .int .i64 si, .int .i64 wh, .int .i64 su, .slice ga gn gc, .bool has, .int .i64 o, .slice a n c, .int .i64 nx, .int .i64 md, .int .i64 lc, .slice ra rn rc] 51)
  have HG : Hid (gs.length = gn) := hgn
  have HX : Hid (xs.length = n) := hn
  have HR : Hid (rs.length = rn) := hrn
  have HV : Hid (decide (sa = 0 ∧ ho = 0 ∧ si = 0 ∧ wh = 0 ∧ su = 0 ∧ ZuP gs has o xs nx md lc rs) = v) := hv
  clear hgn hn hrn hv
  by_cases g_sa : sa = 0
  case neg =>
    by_cases g_wh : wh = 0
    case neg =>
      have hx : Hid (v = false) := by unfold Hid; rw [← HV.out]; simp only [decide_eq_false_iff_not]; intro q; exact g_sa q.1
      have e_sa : (sa == 0) = false := by simpa using g_sa
      clear g_sa
      have e_wh : (wh == 0) = false := by simpa using g_wh
      clear g_wh
      clear HV
      go_enter Try.func75, Try.ntmps75
      go_wp2
      go_ret
      exact ⟨ret_bool hx.out.symm, hw⟩
    by_cases g_su : su = 0
    case neg =>
      have hx : Hid (v = false) := by unfold Hid; rw [← HV.out]; simp only [decide_eq_false_iff_not]; intro q; exact g_sa q.1
      have e_sa : (sa == 0) = false := by simpa using g_sa
      clear g_sa
      have e_wh : (wh == 0) = true := by simpa using g_wh
      have e_su : (su == 0) = false := by simpa using g_su
      clear g_wh
      clear g_su
      clear HV
      go_enter Try.func75, Try.ntmps75
      go_wp2
      go_ret
      exact ⟨ret_bool hx.out.symm, hw⟩
    have hx : Hid (v = false) := by unfold Hid; rw [← HV.out]; simp only [decide_eq_false_iff_not]; intro q; exact g_sa q.1
    have e_sa : (sa == 0) = false := by simpa using g_sa
    clear g_sa
    have e_wh : (wh == 0) = true := by simpa using g_wh
    have e_su : (su == 0) = true := by simpa using g_su
    clear g_wh
    clear g_su
    clear HV
    go_enter Try.func75, Try.ntmps75
    go_wp2
    go_ret
    exact ⟨ret_bool hx.out.symm, hw⟩
  by_cases g_ho : ho = 0
  case neg =>
    by_cases g_wh : wh = 0
    case neg =>
      have hx : Hid (v = false) := by unfold Hid; rw [← HV.out]; simp only [decide_eq_false_iff_not]; intro q; exact g_ho q.2.1
      have e_sa : (sa == 0) = true := by simpa using g_sa
      have e_ho : (ho == 0) = false := by simpa using g_ho
      clear g_sa
      clear g_ho
      have e_wh : (wh == 0) = false := by simpa using g_wh
      clear g_wh
      clear HV
      go_enter Try.func75, Try.ntmps75
      go_wp2
      go_ret
      exact ⟨ret_bool hx.out.symm, hw⟩
    by_cases g_su : su = 0
    case neg =>
      have hx : Hid (v = false) := by unfold Hid; rw [← HV.out]; simp only [decide_eq_false_iff_not]; intro q; exact g_ho q.2.1
      have e_sa : (sa == 0) = true := by simpa using g_sa
      have e_ho : (ho == 0) = false := by simpa using g_ho
      clear g_sa
      clear g_ho
      have e_wh : (wh == 0) = true := by simpa using g_wh
      have e_su : (su == 0) = false := by simpa using g_su
      clear g_wh
      clear g_su
      clear HV
      go_enter Try.func75, Try.ntmps75
      go_wp2
      go_ret
      exact ⟨ret_bool hx.out.symm, hw⟩
    have hx : Hid (v = false) := by unfold Hid; rw [← HV.out]; simp only [decide_eq_false_iff_not]; intro q; exact g_ho q.2.1
    have e_sa : (sa == 0) = true := by simpa using g_sa
    have e_ho : (ho == 0) = false := by simpa using g_ho
    clear g_sa
    clear g_ho
    have e_wh : (wh == 0) = true := by simpa using g_wh
    have e_su : (su == 0) = true := by simpa using g_su
    clear g_wh
    clear g_su
    clear HV
    go_enter Try.func75, Try.ntmps75
    go_wp2
    go_ret
    exact ⟨ret_bool hx.out.symm, hw⟩
  by_cases g_si : si = 0
  case neg =>
    by_cases g_wh : wh = 0
    case neg =>
      have hx : Hid (v = false) := by unfold Hid; rw [← HV.out]; simp only [decide_eq_false_iff_not]; intro q; exact g_si q.2.2.1
      have e_sa : (sa == 0) = true := by simpa using g_sa
      have e_ho : (ho == 0) = true := by simpa using g_ho
      have e_si : (si == 0) = false := by simpa using g_si
      clear g_sa
      clear g_ho
      clear g_si
      have e_wh : (wh == 0) = false := by simpa using g_wh
      clear g_wh
      clear HV
      go_enter Try.func75, Try.ntmps75
      go_wp2
      go_ret
      exact ⟨ret_bool hx.out.symm, hw⟩
    by_cases g_su : su = 0
    case neg =>
      have hx : Hid (v = false) := by unfold Hid; rw [← HV.out]; simp only [decide_eq_false_iff_not]; intro q; exact g_si q.2.2.1
      have e_sa : (sa == 0) = true := by simpa using g_sa
      have e_ho : (ho == 0) = true := by simpa using g_ho
      have e_si : (si == 0) = false := by simpa using g_si
      clear g_sa
      clear g_ho
      clear g_si
      have e_wh : (wh == 0) = true := by simpa using g_wh
      have e_su : (su == 0) = false := by simpa using g_su
      clear g_wh
      clear g_su
      clear HV
      go_enter Try.func75, Try.ntmps75
      go_wp2
      go_ret
      exact ⟨ret_bool hx.out.symm, hw⟩
    have hx : Hid (v = false) := by unfold Hid; rw [← HV.out]; simp only [decide_eq_false_iff_not]; intro q; exact g_si q.2.2.1
    have e_sa : (sa == 0) = true := by simpa using g_sa
    have e_ho : (ho == 0) = true := by simpa using g_ho
    have e_si : (si == 0) = false := by simpa using g_si
    clear g_sa
    clear g_ho
    clear g_si
    have e_wh : (wh == 0) = true := by simpa using g_wh
    have e_su : (su == 0) = true := by simpa using g_su
    clear g_wh
    clear g_su
    clear HV
    go_enter Try.func75, Try.ntmps75
    go_wp2
    go_ret
    exact ⟨ret_bool hx.out.symm, hw⟩
  by_cases g_wh : wh = 0
  case neg =>
    have hx : Hid (v = false) := by unfold Hid; rw [← HV.out]; simp only [decide_eq_false_iff_not]; intro q; exact g_wh q.2.2.2.1
    have e_sa : (sa == 0) = true := by simpa using g_sa
    have e_ho : (ho == 0) = true := by simpa using g_ho
    have e_si : (si == 0) = true := by simpa using g_si
    clear g_sa
    clear g_ho
    clear g_si
    have e_wh : (wh == 0) = false := by simpa using g_wh
    clear g_wh
    clear HV
    go_enter Try.func75, Try.ntmps75
    go_wp2
    go_ret
    exact ⟨ret_bool hx.out.symm, hw⟩
  by_cases g_su : su = 0
  case neg =>
    have hx : Hid (v = false) := by unfold Hid; rw [← HV.out]; simp only [decide_eq_false_iff_not]; intro q; exact g_su q.2.2.2.2.1
    have e_sa : (sa == 0) = true := by simpa using g_sa
    have e_ho : (ho == 0) = true := by simpa using g_ho
    have e_si : (si == 0) = true := by simpa using g_si
    clear g_sa
    clear g_ho
    clear g_si
    have e_wh : (wh == 0) = true := by simpa using g_wh
    have e_su : (su == 0) = false := by simpa using g_su
    clear g_wh
    clear g_su
    clear HV
    go_enter Try.func75, Try.ntmps75
    go_wp2
    go_ret
    exact ⟨ret_bool hx.out.symm, hw⟩
  have hx : decide (ZuP gs has o xs nx md lc rs) = v := by rw [← HV.out]; apply decide_eq_decide.2; simp only [g_sa, g_ho, g_si, g_wh, g_su, true_and]
  have HZ : Hid (decide (ZuP gs has o xs nx md lc rs) = v) := hx
  clear hx
  have e_sa : (sa == 0) = true := by simpa using g_sa
  have e_ho : (ho == 0) = true := by simpa using g_ho
  have e_si : (si == 0) = true := by simpa using g_si
  clear g_sa
  clear g_ho
  clear g_si
  have e_wh : (wh == 0) = true := by simpa using g_wh
  have e_su : (su == 0) = true := by simpa using g_su
  clear g_wh
  clear g_su
  clear HV
  go_enter Try.func75, Try.ntmps75
  go_wp2_with fail
  refine (zero4 ga a ra gn gc n c rn rc has o nx md lc gs rs xs v _ HG.out HX.out HR.out hm1 hm2 hm3 HZ.out).mono ?_
  rintro e w1 ⟨rfl, hn1⟩
  go_wp2
  go_ret
  exact ⟨rfl, hw.trans hn1⟩

end Go.Proofs.Ytljkcijakdhdiaa
