/- What is proved here: what the judging of a message answers, in the model, for every lists of at most 1048576 elements. -/
import Derived.Test.YtljkcijakdhdiaaMsSp
namespace Go.Proofs.Ytljkcijakdhdiaa
open Go.RowKit Go.Sort
set_option linter.unusedVariables false

set_option maxHeartbeats 3200000 in
theorem specMF1 (ga a ra : Option Addr) (gn gc n c rn rc : Nat) (has : Bool) (o nx md lc : Int) (gs rs : List (Int × Int)) (xs : List Int) (sa ho si wh su : Int) (w : World) (hg : PsAt w ga gs) (hx : NsAt w a xs) (hr : PsAt w ra rs) (hgn : gs.length = gn) (hn : xs.length = n) (hrn : rs.length = rn) (hm1 : gn ≤ 1048576) (hm2 : n ≤ 1048576) (hm3 : rn ≤ 1048576) :
    Calls Try.prog 66 #[.agg #[.int .i64 1, .int .i64 sa, .int .i64 ho, .int .i64 si, .int .i64 wh, .int .i64 su, .slice ga gn gc, .bool has, .int .i64 o, .slice a n c, .int .i64 nx, .int .i64 md, .int .i64 lc, .slice ra rn rc]] w fun e w' => e = .returned (.int .i64 (mf 1 sa ho si wh su gs has o xs nx md lc rs)) ∧ New w w' := by
  have hw := (New.refl w).alloc (.cells #[.int .i64 1, .int .i64 sa, .int .i64 ho, .int .i64 si, .int .i64 wh, .int .i64 su, .slice ga gn gc, .bool has, .int .i64 o, .slice a n c, .int .i64 nx, .int .i64 md, .int .i64 lc, .slice ra rn rc] 51)
  have bM := Blk.mk w w.heap.size 51 #[.int .i64 1, .int .i64 sa, .int .i64 ho, .int .i64 si, .int .i64 wh, .int .i64 su, .slice ga gn gc, .bool has, .int .i64 o, .slice a n c, .int .i64 nx, .int .i64 md, .int .i64 lc, .slice ra rn rc] rfl
  have HG : Hid (gs.length = gn) := hgn
  have HX : Hid (xs.length = n) := hn
  have HR : Hid (rs.length = rn) := hrn
  clear hgn hn hrn
  by_cases g0 : 1 ≤ sa ∧ sa ≤ 65535
  case neg =>
    have hf : Hid (mf 1 sa ho si wh su gs has o xs nx md lc rs = 3) := mf1_bad (fun q => g0 q.1)
    go_enter Try.func66, Try.ntmps66
    go_wp2_with fail
    refine (in_yes 1 1 4 _ (by omega)).mono ?_
    rintro e w1 ⟨rfl, rfl⟩
    go_wp2_with fail
    refine (in_no sa 1 65535 _ (by omega)).mono ?_
    rintro e w1 ⟨rfl, rfl⟩
    go_wp2
    go_ret
    exact ⟨ret_i64 hf.out.symm, hw⟩
  by_cases g1 : Hl ho
  case neg =>
    have hf : Hid (mf 1 sa ho si wh su gs has o xs nx md lc rs = 3) := mf1_bad (fun q => g1 q.2.1)
    go_enter Try.func66, Try.ntmps66
    go_wp2_with fail
    refine (in_yes 1 1 4 _ (by omega)).mono ?_
    rintro e w1 ⟨rfl, rfl⟩
    go_wp2_with fail
    refine (in_yes sa 1 65535 _ g0).mono ?_
    rintro e w1 ⟨rfl, rfl⟩
    go_wp2_with fail
    refine (hold4_no ho _ g1).mono ?_
    rintro e w1 ⟨rfl, rfl⟩
    go_wp2
    go_ret
    exact ⟨ret_i64 hf.out.symm, hw⟩
  by_cases g2 : 1 ≤ si ∧ si ≤ 65535
  case neg =>
    have hf : Hid (mf 1 sa ho si wh su gs has o xs nx md lc rs = 3) := mf1_bad (fun q => g2 q.2.2)
    go_enter Try.func66, Try.ntmps66
    go_wp2_with fail
    refine (in_yes 1 1 4 _ (by omega)).mono ?_
    rintro e w1 ⟨rfl, rfl⟩
    go_wp2_with fail
    refine (in_yes sa 1 65535 _ g0).mono ?_
    rintro e w1 ⟨rfl, rfl⟩
    go_wp2_with fail
    refine (hold4_yes ho _ g1).mono ?_
    rintro e w1 ⟨rfl, rfl⟩
    go_wp2_with fail
    refine (in_no si 1 65535 _ (by omega)).mono ?_
    rintro e w1 ⟨rfl, rfl⟩
    go_wp2
    go_ret
    exact ⟨ret_i64 hf.out.symm, hw⟩
  generalize hv : decide (wh = 0 ∧ su = 0 ∧ ZuP gs has o xs nx md lc rs) = v
  have HV : Hid (decide (wh = 0 ∧ su = 0 ∧ ZuP gs has o xs nx md lc rs) = v) := hv
  clear hv
  go_enter Try.func66, Try.ntmps66
  go_wp2_with fail
  refine (in_yes 1 1 4 _ (by omega)).mono ?_
  rintro e w1 ⟨rfl, rfl⟩
  go_wp2_with fail
  refine (in_yes sa 1 65535 _ g0).mono ?_
  rintro e w1 ⟨rfl, rfl⟩
  go_wp2_with fail
  refine (hold4_yes ho _ g1).mono ?_
  rintro e w1 ⟨rfl, rfl⟩
  go_wp2_with fail
  refine (in_yes si 1 65535 _ g2).mono ?_
  rintro e w1 ⟨rfl, rfl⟩
  go_wp2_with fail
  refine (bare1 ga a ra gn gc n c rn rc has o nx md lc gs rs xs sa ho si wh su v _ HG.out HX.out HR.out hm1 hm2 hm3 HV.out).mono ?_
  rintro e w2 ⟨rfl, hn2⟩
  have hw2 := hw.trans hn2
  have c2 := (bM.new hn2).cells
  cases v with
  | false =>
    have hf : Hid (mf 1 sa ho si wh su gs has o xs nx md lc rs = 1) := mf1_form ⟨g0, g1, g2⟩ (of_decide_eq_false HV.out)
    go_wp2
    go_ret
    exact ⟨ret_i64 hf.out.symm, hw2⟩
  | true =>
    have hf : Hid (mf 1 sa ho si wh su gs has o xs nx md lc rs = 0) := mf1_ok ⟨g0, g1, g2⟩ (of_decide_eq_true HV.out)
    go_wp2
    go_ret
    exact ⟨ret_i64 hf.out.symm, hw2⟩

set_option maxHeartbeats 3200000 in
theorem specMF2 (ga a ra : Option Addr) (gn gc n c rn rc : Nat) (has : Bool) (o nx md lc : Int) (gs rs : List (Int × Int)) (xs : List Int) (sa ho si wh su : Int) (w : World) (hg : PsAt w ga gs) (hx : NsAt w a xs) (hr : PsAt w ra rs) (hgn : gs.length = gn) (hn : xs.length = n) (hrn : rs.length = rn) (hm1 : gn ≤ 1048576) (hm2 : n ≤ 1048576) (hm3 : rn ≤ 1048576) :
    Calls Try.prog 66 #[.agg #[.int .i64 2, .int .i64 sa, .int .i64 ho, .int .i64 si, .int .i64 wh, .int .i64 su, .slice ga gn gc, .bool has, .int .i64 o, .slice a n c, .int .i64 nx, .int .i64 md, .int .i64 lc, .slice ra rn rc]] w fun e w' => e = .returned (.int .i64 (mf 2 sa ho si wh su gs has o xs nx md lc rs)) ∧ New w w' := by
  have hw := (New.refl w).alloc (.cells #[.int .i64 2, .int .i64 sa, .int .i64 ho, .int .i64 si, .int .i64 wh, .int .i64 su, .slice ga gn gc, .bool has, .int .i64 o, .slice a n c, .int .i64 nx, .int .i64 md, .int .i64 lc, .slice ra rn rc] 51)
  have bM := Blk.mk w w.heap.size 51 #[.int .i64 2, .int .i64 sa, .int .i64 ho, .int .i64 si, .int .i64 wh, .int .i64 su, .slice ga gn gc, .bool has, .int .i64 o, .slice a n c, .int .i64 nx, .int .i64 md, .int .i64 lc, .slice ra rn rc] rfl
  have HG : Hid (gs.length = gn) := hgn
  have HX : Hid (xs.length = n) := hn
  have HR : Hid (rs.length = rn) := hrn
  clear hgn hn hrn
  generalize hv : decide (sa = 0 ∧ ho = 0 ∧ si = 0 ∧ wh = 0 ∧ su = 0) = v
  have HV : Hid (decide (sa = 0 ∧ ho = 0 ∧ si = 0 ∧ wh = 0 ∧ su = 0) = v) := hv
  clear hv
  go_enter Try.func66, Try.ntmps66
  go_wp2_with fail
  refine (in_yes 2 1 4 _ (by omega)).mono ?_
  rintro e w1 ⟨rfl, rfl⟩
  go_wp2_with fail
  refine (bare2 ga a ra gn gc n c rn rc has o nx md lc gs rs xs sa ho si wh su v _ HG.out HX.out HR.out hm1 hm2 hm3 HV.out).mono ?_
  rintro e w2 ⟨rfl, hn2⟩
  have hw2 := hw.trans hn2
  have c2 := (bM.new hn2).cells
  cases v with
  | false =>
    have hf : Hid (mf 2 sa ho si wh su gs has o xs nx md lc rs = 1) := mf2_form (of_decide_eq_false HV.out)
    go_wp2
    go_ret
    exact ⟨ret_i64 hf.out.symm, hw2⟩
  | true =>
    have hf : Hid (mf 2 sa ho si wh su gs has o xs nx md lc rs = uf gs has o xs nx md lc rs) := mf2_ok (of_decide_eq_true HV.out)
    go_wp2_with fail
    refine (specUF ga a ra gn gc n c rn rc has o nx md lc gs rs xs _ (hg.new hw2) (hx.new hw2) (hr.new hw2) HG.out HX.out HR.out hm1 hm2 hm3).mono ?_
    rintro e w3 ⟨rfl, hn3⟩
    go_wp2
    go_ret
    exact ⟨ret_i64 hf.out.symm, hw2.trans hn3⟩

set_option maxHeartbeats 3200000 in
theorem specMF3 (ga a ra : Option Addr) (gn gc n c rn rc : Nat) (has : Bool) (o nx md lc : Int) (gs rs : List (Int × Int)) (xs : List Int) (sa ho si wh su : Int) (w : World) (hg : PsAt w ga gs) (hx : NsAt w a xs) (hr : PsAt w ra rs) (hgn : gs.length = gn) (hn : xs.length = n) (hrn : rs.length = rn) (hm1 : gn ≤ 1048576) (hm2 : n ≤ 1048576) (hm3 : rn ≤ 1048576) :
    Calls Try.prog 66 #[.agg #[.int .i64 3, .int .i64 sa, .int .i64 ho, .int .i64 si, .int .i64 wh, .int .i64 su, .slice ga gn gc, .bool has, .int .i64 o, .slice a n c, .int .i64 nx, .int .i64 md, .int .i64 lc, .slice ra rn rc]] w fun e w' => e = .returned (.int .i64 (mf 3 sa ho si wh su gs has o xs nx md lc rs)) ∧ New w w' := by
  have hw := (New.refl w).alloc (.cells #[.int .i64 3, .int .i64 sa, .int .i64 ho, .int .i64 si, .int .i64 wh, .int .i64 su, .slice ga gn gc, .bool has, .int .i64 o, .slice a n c, .int .i64 nx, .int .i64 md, .int .i64 lc, .slice ra rn rc] 51)
  have bM := Blk.mk w w.heap.size 51 #[.int .i64 3, .int .i64 sa, .int .i64 ho, .int .i64 si, .int .i64 wh, .int .i64 su, .slice ga gn gc, .bool has, .int .i64 o, .slice a n c, .int .i64 nx, .int .i64 md, .int .i64 lc, .slice ra rn rc] rfl
  have HG : Hid (gs.length = gn) := hgn
  have HX : Hid (xs.length = n) := hn
  have HR : Hid (rs.length = rn) := hrn
  clear hgn hn hrn
  by_cases g0 : 1 ≤ wh ∧ wh ≤ 6
  case neg =>
    have hf : Hid (mf 3 sa ho si wh su gs has o xs nx md lc rs = 3) := mf3_bad (fun q => g0 q.1)
    go_enter Try.func66, Try.ntmps66
    go_wp2_with fail
    refine (in_yes 3 1 4 _ (by omega)).mono ?_
    rintro e w1 ⟨rfl, rfl⟩
    go_wp2_with fail
    refine (in_no wh 1 6 _ (by omega)).mono ?_
    rintro e w1 ⟨rfl, rfl⟩
    go_wp2
    go_ret
    exact ⟨ret_i64 hf.out.symm, hw⟩
  by_cases g1 : 0 ≤ su ∧ su ≤ 20
  case neg =>
    have hf : Hid (mf 3 sa ho si wh su gs has o xs nx md lc rs = 3) := mf3_bad (fun q => g1 q.2)
    go_enter Try.func66, Try.ntmps66
    go_wp2_with fail
    refine (in_yes 3 1 4 _ (by omega)).mono ?_
    rintro e w1 ⟨rfl, rfl⟩
    go_wp2_with fail
    refine (in_yes wh 1 6 _ g0).mono ?_
    rintro e w1 ⟨rfl, rfl⟩
    go_wp2_with fail
    refine (in_no su 0 20 _ (by omega)).mono ?_
    rintro e w1 ⟨rfl, rfl⟩
    go_wp2
    go_ret
    exact ⟨ret_i64 hf.out.symm, hw⟩
  generalize hv : decide (sa = 0 ∧ ho = 0 ∧ si = 0 ∧ ZuP gs has o xs nx md lc rs) = v
  have HV : Hid (decide (sa = 0 ∧ ho = 0 ∧ si = 0 ∧ ZuP gs has o xs nx md lc rs) = v) := hv
  clear hv
  go_enter Try.func66, Try.ntmps66
  go_wp2_with fail
  refine (in_yes 3 1 4 _ (by omega)).mono ?_
  rintro e w1 ⟨rfl, rfl⟩
  go_wp2_with fail
  refine (in_yes wh 1 6 _ g0).mono ?_
  rintro e w1 ⟨rfl, rfl⟩
  go_wp2_with fail
  refine (in_yes su 0 20 _ g1).mono ?_
  rintro e w1 ⟨rfl, rfl⟩
  go_wp2_with fail
  refine (bare3 ga a ra gn gc n c rn rc has o nx md lc gs rs xs sa ho si wh su v _ HG.out HX.out HR.out hm1 hm2 hm3 HV.out).mono ?_
  rintro e w2 ⟨rfl, hn2⟩
  have hw2 := hw.trans hn2
  have c2 := (bM.new hn2).cells
  cases v with
  | false =>
    have hf : Hid (mf 3 sa ho si wh su gs has o xs nx md lc rs = 1) := mf3_form ⟨g0, g1⟩ (of_decide_eq_false HV.out)
    go_wp2
    go_ret
    exact ⟨ret_i64 hf.out.symm, hw2⟩
  | true =>
    have hf : Hid (mf 3 sa ho si wh su gs has o xs nx md lc rs = 0) := mf3_ok ⟨g0, g1⟩ (of_decide_eq_true HV.out)
    go_wp2
    go_ret
    exact ⟨ret_i64 hf.out.symm, hw2⟩

set_option maxHeartbeats 3200000 in
theorem specMF4 (ga a ra : Option Addr) (gn gc n c rn rc : Nat) (has : Bool) (o nx md lc : Int) (gs rs : List (Int × Int)) (xs : List Int) (sa ho si wh su : Int) (w : World) (hg : PsAt w ga gs) (hx : NsAt w a xs) (hr : PsAt w ra rs) (hgn : gs.length = gn) (hn : xs.length = n) (hrn : rs.length = rn) (hm1 : gn ≤ 1048576) (hm2 : n ≤ 1048576) (hm3 : rn ≤ 1048576) :
    Calls Try.prog 66 #[.agg #[.int .i64 4, .int .i64 sa, .int .i64 ho, .int .i64 si, .int .i64 wh, .int .i64 su, .slice ga gn gc, .bool has, .int .i64 o, .slice a n c, .int .i64 nx, .int .i64 md, .int .i64 lc, .slice ra rn rc]] w fun e w' => e = .returned (.int .i64 (mf 4 sa ho si wh su gs has o xs nx md lc rs)) ∧ New w w' := by
  have hw := (New.refl w).alloc (.cells #[.int .i64 4, .int .i64 sa, .int .i64 ho, .int .i64 si, .int .i64 wh, .int .i64 su, .slice ga gn gc, .bool has, .int .i64 o, .slice a n c, .int .i64 nx, .int .i64 md, .int .i64 lc, .slice ra rn rc] 51)
  have bM := Blk.mk w w.heap.size 51 #[.int .i64 4, .int .i64 sa, .int .i64 ho, .int .i64 si, .int .i64 wh, .int .i64 su, .slice ga gn gc, .bool has, .int .i64 o, .slice a n c, .int .i64 nx, .int .i64 md, .int .i64 lc, .slice ra rn rc] rfl
  have HG : Hid (gs.length = gn) := hgn
  have HX : Hid (xs.length = n) := hn
  have HR : Hid (rs.length = rn) := hrn
  clear hgn hn hrn
  generalize hv : decide (sa = 0 ∧ ho = 0 ∧ si = 0 ∧ wh = 0 ∧ su = 0 ∧ ZuP gs has o xs nx md lc rs) = v
  have HV : Hid (decide (sa = 0 ∧ ho = 0 ∧ si = 0 ∧ wh = 0 ∧ su = 0 ∧ ZuP gs has o xs nx md lc rs) = v) := hv
  clear hv
  go_enter Try.func66, Try.ntmps66
  go_wp2_with fail
  refine (in_yes 4 1 4 _ (by omega)).mono ?_
  rintro e w1 ⟨rfl, rfl⟩
  go_wp2_with fail
  refine (bare4 ga a ra gn gc n c rn rc has o nx md lc gs rs xs sa ho si wh su v _ HG.out HX.out HR.out hm1 hm2 hm3 HV.out).mono ?_
  rintro e w2 ⟨rfl, hn2⟩
  have hw2 := hw.trans hn2
  have c2 := (bM.new hn2).cells
  cases v with
  | false =>
    have hf : Hid (mf 4 sa ho si wh su gs has o xs nx md lc rs = 1) := mf4_form (of_decide_eq_false HV.out)
    go_wp2
    go_ret
    exact ⟨ret_i64 hf.out.symm, hw2⟩
  | true =>
    have hf : Hid (mf 4 sa ho si wh su gs has o xs nx md lc rs = 0) := mf4_ok (of_decide_eq_true HV.out)
    go_wp2
    go_ret
    exact ⟨ret_i64 hf.out.symm, hw2⟩

theorem specMF (ga a ra : Option Addr) (gn gc n c rn rc : Nat) (has : Bool) (o nx md lc : Int) (gs rs : List (Int × Int)) (xs : List Int) (kd sa ho si wh su : Int) (w : World) (hg : PsAt w ga gs) (hx : NsAt w a xs) (hr : PsAt w ra rs) (hgn : gs.length = gn) (hn : xs.length = n) (hrn : rs.length = rn) (hm1 : gn ≤ 1048576) (hm2 : n ≤ 1048576) (hm3 : rn ≤ 1048576) :
    Calls Try.prog 66 #[.agg #[.int .i64 kd, .int .i64 sa, .int .i64 ho, .int .i64 si, .int .i64 wh, .int .i64 su, .slice ga gn gc, .bool has, .int .i64 o, .slice a n c, .int .i64 nx, .int .i64 md, .int .i64 lc, .slice ra rn rc]] w fun e w' => e = .returned (.int .i64 (mf kd sa ho si wh su gs has o xs nx md lc rs)) ∧ New w w' := by
  by_cases h : kd < 1 ∨ 4 < kd
  · have hw := (New.refl w).alloc (.cells #[.int .i64 kd, .int .i64 sa, .int .i64 ho, .int .i64 si, .int .i64 wh, .int .i64 su, .slice ga gn gc, .bool has, .int .i64 o, .slice a n c, .int .i64 nx, .int .i64 md, .int .i64 lc, .slice ra rn rc] 51)
    have hf : Hid (mf kd sa ho si wh su gs has o xs nx md lc rs = 1) := mf_none h
    clear hg hx hr
    go_enter Try.func66, Try.ntmps66
    go_wp2_with fail
    refine (in_no kd 1 4 _ h).mono ?_
    rintro e w1 ⟨rfl, rfl⟩
    go_wp2
    go_ret
    exact ⟨ret_i64 hf.out.symm, hw⟩
  · rcases (show kd = 1 ∨ kd = 2 ∨ kd = 3 ∨ kd = 4 by omega) with rfl | rfl | rfl | rfl
    · exact specMF1 ga a ra gn gc n c rn rc has o nx md lc gs rs xs sa ho si wh su w hg hx hr hgn hn hrn hm1 hm2 hm3
    · exact specMF2 ga a ra gn gc n c rn rc has o nx md lc gs rs xs sa ho si wh su w hg hx hr hgn hn hrn hm1 hm2 hm3
    · exact specMF3 ga a ra gn gc n c rn rc has o nx md lc gs rs xs sa ho si wh su w hg hx hr hgn hn hrn hm1 hm2 hm3
    · exact specMF4 ga a ra gn gc n c rn rc has o nx md lc gs rs xs sa ho si wh su w hg hx hr hgn hn hrn hm1 hm2 hm3

end Go.Proofs.Ytljkcijakdhdiaa
