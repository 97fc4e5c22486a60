/- What is proved here: what the judging of a message answers, in the program, for every lists of at most 1048576 elements. -/
import Derived.Test.YtljkcijakdhdiaaDoorMsFn
import Derived.Deep.RegionHeld3
namespace Go.Proofs.YtljkcijakdhdiaaDoor
open Go.RowKit Go.Sort
set_option linter.unusedVariables false

set_option maxHeartbeats 3200000 in
theorem same_up (ga a ra : Option Addr) (gn gc n c rn rc : Nat) (has : Bool) (o nx md lc : Int) (gs rs : List (Int × Int)) (xs : List Int) (gb b rb : Option Addr) (gm gd m d rm rd : Nat) (has' : Bool) (o' nx' md' lc' : Int) (gs' rs' : List (Int × Int)) (xs' : List Int) (v : Bool) (w : World) (hg : PsAt w ga gs) (hx : NsAt w a xs) (hr : PsAt w ra rs) (hgn : gs.length = gn) (hn : xs.length = n) (hrn : rs.length = rn) (hm1 : gn ≤ 1048576) (hm2 : n ≤ 1048576) (hm3 : rn ≤ 1048576) (kg : PsAt w gb gs') (kx : NsAt w b xs') (kr : PsAt w rb rs') (kgn : gs'.length = gm) (kn : xs'.length = m) (krn : rs'.length = rm) (km1 : gm ≤ 1048576) (km2 : m ≤ 1048576) (km3 : rm ≤ 1048576) (hv : decide (SuP gs has o xs nx md lc rs gs' has' o' xs' nx' md' lc' rs') = v) :
    Calls Tryd.prog 52 #[.agg #[.slice ga gn gc, .bool has, .int .i64 o, .slice a n c, .int .i64 nx, .int .i64 md, .int .i64 lc, .slice ra rn rc], .agg #[.slice gb gm gd, .bool has', .int .i64 o', .slice b m d, .int .i64 nx', .int .i64 md', .int .i64 lc', .slice rb rm rd]] w fun e w' => e = .returned (.bool v) ∧ New w w' := by
  have hw0 := ((New.refl w).alloc (.cells #[.slice ga gn gc, .bool has, .int .i64 o, .slice a n c, .int .i64 nx, .int .i64 md, .int .i64 lc, .slice ra rn rc] 37)).alloc (.cells #[.slice gb gm gd, .bool has', .int .i64 o', .slice b m d, .int .i64 nx', .int .i64 md', .int .i64 lc', .slice rb rm rd] 37)
  have bA0 : Blk ((w.alloc (.cells #[.slice ga gn gc, .bool has, .int .i64 o, .slice a n c, .int .i64 nx, .int .i64 md, .int .i64 lc, .slice ra rn rc] 37)).alloc (.cells #[.slice gb gm gd, .bool has', .int .i64 o', .slice b m d, .int .i64 nx', .int .i64 md', .int .i64 lc', .slice rb rm rd] 37)) w.heap.size 37 #[.slice ga gn gc, .bool has, .int .i64 o, .slice a n c, .int .i64 nx, .int .i64 md, .int .i64 lc, .slice ra rn rc] := (Blk.mk _ _ _ _ rfl).alloc _
  have bB0 : Blk ((w.alloc (.cells #[.slice ga gn gc, .bool has, .int .i64 o, .slice a n c, .int .i64 nx, .int .i64 md, .int .i64 lc, .slice ra rn rc] 37)).alloc (.cells #[.slice gb gm gd, .bool has', .int .i64 o', .slice b m d, .int .i64 nx', .int .i64 md', .int .i64 lc', .slice rb rm rd] 37)) (w.heap.size + 1) 37 #[.slice gb gm gd, .bool has', .int .i64 o', .slice b m d, .int .i64 nx', .int .i64 md', .int .i64 lc', .slice rb rm rd] := Blk.mk _ _ _ _ (by simp)
  have HG : Hid (gs.length = gn) := hgn
  have HX : Hid (xs.length = n) := hn
  have HR : Hid (rs.length = rn) := hrn
  have KG : Hid (gs'.length = gm) := kgn
  have KX : Hid (xs'.length = m) := kn
  have KR : Hid (rs'.length = rm) := krn
  clear hgn hn hrn kgn kn krn
  by_cases g0 : gs = gs'
  case neg =>
    have hv' : Hid (v = false) := by unfold Hid; rw [← hv]; simp only [decide_eq_false_iff_not]; intro q; exact g0 q.1
    clear hv
    go_enter Tryd.func52, Tryd.ntmps52
    go_wp2_with fail
    refine (equalPx ga gb gn gm gc gd gs gs' false _ (hg.new hw0) (kg.new hw0) HG.out KG.out hm1 km1 (by simp only [decide_eq_false_iff_not]; exact g0)).mono ?_
    rintro e w1 ⟨rfl, hn1⟩
    have hw1 := hw0.trans hn1
    have bA1 := bA0.new hn1
    have bB1 := bB0.new hn1
    have cA1 := bA1.cells
    have cB1 := bB1.cells
    go_wp2
    go_ret
    exact ⟨ret_bool hv'.out.symm, hw1⟩
  have G0 : Hid (gs = gs') := g0
  clear g0
  by_cases g1 : has = has'
  case neg =>
    have hv' : Hid (v = false) := by unfold Hid; rw [← hv]; simp only [decide_eq_false_iff_not]; intro q; exact g1 q.2.1
    clear hv
    have e1 : (has == has') = false := by cases has <;> cases has' <;> simp_all
    go_enter Tryd.func52, Tryd.ntmps52
    go_wp2_with fail
    refine (equalPx ga gb gn gm gc gd gs gs' true _ (hg.new hw0) (kg.new hw0) HG.out KG.out hm1 km1 (by simp only [decide_eq_true_eq]; exact G0.out)).mono ?_
    rintro e w1 ⟨rfl, hn1⟩
    have hw1 := hw0.trans hn1
    have bA1 := bA0.new hn1
    have bB1 := bB0.new hn1
    have cA1 := bA1.cells
    have cB1 := bB1.cells
    go_wp2
    go_ret
    exact ⟨ret_bool hv'.out.symm, hw1⟩
  have G1 : Hid (has = has') := g1
  clear g1
  by_cases g2 : SaP o xs nx md lc o' xs' nx' md' lc'
  case neg =>
    have hv' : Hid (v = false) := by unfold Hid; rw [← hv]; simp only [decide_eq_false_iff_not]; intro q; exact g2 q.2.2.1
    clear hv
    have e1 : (has == has') = true := by rw [G1.out]; simp
    go_enter Tryd.func52, Tryd.ntmps52
    go_wp2_with fail
    refine (equalPx ga gb gn gm gc gd gs gs' true _ (hg.new hw0) (kg.new hw0) HG.out KG.out hm1 km1 (by simp only [decide_eq_true_eq]; exact G0.out)).mono ?_
    rintro e w1 ⟨rfl, hn1⟩
    have hw1 := hw0.trans hn1
    have bA1 := bA0.new hn1
    have bB1 := bB0.new hn1
    have cA1 := bA1.cells
    have cB1 := bB1.cells
    go_wp2_with fail
    refine (implSA o nx md lc o' nx' md' lc' a b n m c d xs xs' false _ (hx.new hw1) (kx.new hw1) HX.out KX.out hm2 km2 (by simp only [decide_eq_false_iff_not]; exact g2)).mono ?_
    rintro e w2 ⟨rfl, hn2⟩
    have hw2 := hw1.trans hn2
    have bA2 := bA1.new hn2
    have bB2 := bB1.new hn2
    have cA2 := bA2.cells
    have cB2 := bB2.cells
    clear cA1 cB1
    go_wp2
    go_ret
    exact ⟨ret_bool hv'.out.symm, hw2⟩
  have G2 : Hid (SaP o xs nx md lc o' xs' nx' md' lc') := g2
  clear g2
  by_cases g3 : rs = rs'
  case neg =>
    have hv' : Hid (v = false) := by unfold Hid; rw [← hv]; simp only [decide_eq_false_iff_not]; intro q; exact g3 q.2.2.2
    clear hv
    have e1 : (has == has') = true := by rw [G1.out]; simp
    go_enter Tryd.func52, Tryd.ntmps52
    go_wp2_with fail
    refine (equalPx ga gb gn gm gc gd gs gs' true _ (hg.new hw0) (kg.new hw0) HG.out KG.out hm1 km1 (by simp only [decide_eq_true_eq]; exact G0.out)).mono ?_
    rintro e w1 ⟨rfl, hn1⟩
    have hw1 := hw0.trans hn1
    have bA1 := bA0.new hn1
    have bB1 := bB0.new hn1
    have cA1 := bA1.cells
    have cB1 := bB1.cells
    go_wp2_with fail
    refine (implSA o nx md lc o' nx' md' lc' a b n m c d xs xs' true _ (hx.new hw1) (kx.new hw1) HX.out KX.out hm2 km2 (by simp only [decide_eq_true_eq]; exact G2.out)).mono ?_
    rintro e w2 ⟨rfl, hn2⟩
    have hw2 := hw1.trans hn2
    have bA2 := bA1.new hn2
    have bB2 := bB1.new hn2
    have cA2 := bA2.cells
    have cB2 := bB2.cells
    clear cA1 cB1
    go_wp2_with fail
    refine (equalPx ra rb rn rm rc rd rs rs' false _ (hr.new hw2) (kr.new hw2) HR.out KR.out hm3 km3 (by simp only [decide_eq_false_iff_not]; exact g3)).mono ?_
    rintro e w3 ⟨rfl, hn3⟩
    have hw3 := hw2.trans hn3
    have bA3 := bA2.new hn3
    have bB3 := bB2.new hn3
    have cA3 := bA3.cells
    have cB3 := bB3.cells
    clear cA2 cB2
    go_wp2
    go_ret
    exact ⟨ret_bool hv'.out.symm, hw3⟩
  have G3 : Hid (rs = rs') := g3
  clear g3
  have hv' : Hid (v = true) := by unfold Hid; rw [← hv]; simp only [decide_eq_true_eq]; exact ⟨G0.out, G1.out, G2.out, G3.out⟩
  clear hv
  have e1 : (has == has') = true := by rw [G1.out]; simp
  go_enter Tryd.func52, Tryd.ntmps52
  go_wp2_with fail
  refine (equalPx ga gb gn gm gc gd gs gs' true _ (hg.new hw0) (kg.new hw0) HG.out KG.out hm1 km1 (by simp only [decide_eq_true_eq]; exact G0.out)).mono ?_
  rintro e w1 ⟨rfl, hn1⟩
  have hw1 := hw0.trans hn1
  have bA1 := bA0.new hn1
  have bB1 := bB0.new hn1
  have cA1 := bA1.cells
  have cB1 := bB1.cells
  go_wp2_with fail
  refine (implSA o nx md lc o' nx' md' lc' a b n m c d xs xs' true _ (hx.new hw1) (kx.new hw1) HX.out KX.out hm2 km2 (by simp only [decide_eq_true_eq]; exact G2.out)).mono ?_
  rintro e w2 ⟨rfl, hn2⟩
  have hw2 := hw1.trans hn2
  have bA2 := bA1.new hn2
  have bB2 := bB1.new hn2
  have cA2 := bA2.cells
  have cB2 := bB2.cells
  clear cA1 cB1
  go_wp2_with fail
  refine (equalPx ra rb rn rm rc rd rs rs' true _ (hr.new hw2) (kr.new hw2) HR.out KR.out hm3 km3 (by simp only [decide_eq_true_eq]; exact G3.out)).mono ?_
  rintro e w3 ⟨rfl, hn3⟩
  have hw3 := hw2.trans hn3
  have bA3 := bA2.new hn3
  have bB3 := bB2.new hn3
  have cA3 := bA3.cells
  have cB3 := bB3.cells
  clear cA2 cB2
  go_wp2
  go_ret
  exact ⟨ret_bool hv'.out.symm, hw3⟩

set_option maxHeartbeats 3200000 in
theorem same_ms (ga a ra : Option Addr) (gn gc n c rn rc : Nat) (has : Bool) (o nx md lc : Int) (gs rs : List (Int × Int)) (xs : List Int) (gb b rb : Option Addr) (gm gd m d rm rd : Nat) (has' : Bool) (o' nx' md' lc' : Int) (gs' rs' : List (Int × Int)) (xs' : List Int) (kd sa ho si wh su : Int) (kd' sa' ho' si' wh' su' : Int) (v : Bool) (w : World) (hg : PsAt w ga gs) (hx : NsAt w a xs) (hr : PsAt w ra rs) (hgn : gs.length = gn) (hn : xs.length = n) (hrn : rs.length = rn) (hm1 : gn ≤ 1048576) (hm2 : n ≤ 1048576) (hm3 : rn ≤ 1048576) (kg : PsAt w gb gs') (kx : NsAt w b xs') (kr : PsAt w rb rs') (kgn : gs'.length = gm) (kn : xs'.length = m) (krn : rs'.length = rm) (km1 : gm ≤ 1048576) (km2 : m ≤ 1048576) (km3 : rm ≤ 1048576) (hv : decide (kd = kd' ∧ sa = sa' ∧ ho = ho' ∧ si = si' ∧ wh = wh' ∧ su = su' ∧ SuP gs has o xs nx md lc rs gs' has' o' xs' nx' md' lc' rs') = v) :
    Calls Tryd.prog 31 #[.agg #[.int .i64 kd, .int .i64 sa, .int .i64 ho, .int .i64 si, .int .i64 wh, .int .i64 su, .slice ga gn gc, .bool has, .int .i64 o, .slice a n c, .int .i64 nx, .int .i64 md, .int .i64 lc, .slice ra rn rc], .agg #[.int .i64 kd', .int .i64 sa', .int .i64 ho', .int .i64 si', .int .i64 wh', .int .i64 su', .slice gb gm gd, .bool has', .int .i64 o', .slice b m d, .int .i64 nx', .int .i64 md', .int .i64 lc', .slice rb rm rd]] w fun e w' => e = .returned (.bool v) ∧ New w w' := by
  have hw := ((New.refl w).alloc (.cells #[.int .i64 kd, .int .i64 sa, .int .i64 ho, .int .i64 si, .int .i64 wh, .int .i64 su, .slice ga gn gc, .bool has, .int .i64 o, .slice a n c, .int .i64 nx, .int .i64 md, .int .i64 lc, .slice ra rn rc] 39)).alloc (.cells #[.int .i64 kd', .int .i64 sa', .int .i64 ho', .int .i64 si', .int .i64 wh', .int .i64 su', .slice gb gm gd, .bool has', .int .i64 o', .slice b m d, .int .i64 nx', .int .i64 md', .int .i64 lc', .slice rb rm rd] 39)
  have bA : Blk ((w.alloc (.cells #[.int .i64 kd, .int .i64 sa, .int .i64 ho, .int .i64 si, .int .i64 wh, .int .i64 su, .slice ga gn gc, .bool has, .int .i64 o, .slice a n c, .int .i64 nx, .int .i64 md, .int .i64 lc, .slice ra rn rc] 39)).alloc (.cells #[.int .i64 kd', .int .i64 sa', .int .i64 ho', .int .i64 si', .int .i64 wh', .int .i64 su', .slice gb gm gd, .bool has', .int .i64 o', .slice b m d, .int .i64 nx', .int .i64 md', .int .i64 lc', .slice rb rm rd] 39)) w.heap.size 39 #[.int .i64 kd, .int .i64 sa, .int .i64 ho, .int .i64 si, .int .i64 wh, .int .i64 su, .slice ga gn gc, .bool has, .int .i64 o, .slice a n c, .int .i64 nx, .int .i64 md, .int .i64 lc, .slice ra rn rc] := (Blk.mk _ _ _ _ rfl).alloc _
  have bB : Blk ((w.alloc (.cells #[.int .i64 kd, .int .i64 sa, .int .i64 ho, .int .i64 si, .int .i64 wh, .int .i64 su, .slice ga gn gc, .bool has, .int .i64 o, .slice a n c, .int .i64 nx, .int .i64 md, .int .i64 lc, .slice ra rn rc] 39)).alloc (.cells #[.int .i64 kd', .int .i64 sa', .int .i64 ho', .int .i64 si', .int .i64 wh', .int .i64 su', .slice gb gm gd, .bool has', .int .i64 o', .slice b m d, .int .i64 nx', .int .i64 md', .int .i64 lc', .slice rb rm rd] 39)) (w.heap.size + 1) 39 #[.int .i64 kd', .int .i64 sa', .int .i64 ho', .int .i64 si', .int .i64 wh', .int .i64 su', .slice gb gm gd, .bool has', .int .i64 o', .slice b m d, .int .i64 nx', .int .i64 md', .int .i64 lc', .slice rb rm rd] := Blk.mk _ _ _ _ (by simp)
  clear bA bB
  by_cases g0 : kd = kd'
  case neg =>
    have hv' : Hid (v = false) := by unfold Hid; rw [← hv]; simp only [decide_eq_false_iff_not]; intro q; exact g0 q.1
    clear hv hg hx hr kg kx kr
    have e0 : (kd == kd') = false := by simpa using g0
    clear g0
    go_enter Tryd.func31, Tryd.ntmps31
    go_wp2
    go_ret
    exact ⟨ret_bool hv'.out.symm, hw⟩
  have e0 : (kd == kd') = true := by simpa using g0
  have G0 : Hid (kd = kd') := g0
  clear g0
  by_cases g1 : sa = sa'
  case neg =>
    have hv' : Hid (v = false) := by unfold Hid; rw [← hv]; simp only [decide_eq_false_iff_not]; intro q; exact g1 q.2.1
    clear hv hg hx hr kg kx kr
    have e1 : (sa == sa') = false := by simpa using g1
    clear g1
    go_enter Tryd.func31, Tryd.ntmps31
    go_wp2
    go_ret
    exact ⟨ret_bool hv'.out.symm, hw⟩
  have e1 : (sa == sa') = true := by simpa using g1
  have G1 : Hid (sa = sa') := g1
  clear g1
  by_cases g2 : ho = ho'
  case neg =>
    have hv' : Hid (v = false) := by unfold Hid; rw [← hv]; simp only [decide_eq_false_iff_not]; intro q; exact g2 q.2.2.1
    clear hv hg hx hr kg kx kr
    have e2 : (ho == ho') = false := by simpa using g2
    clear g2
    go_enter Tryd.func31, Tryd.ntmps31
    go_wp2
    go_ret
    exact ⟨ret_bool hv'.out.symm, hw⟩
  have e2 : (ho == ho') = true := by simpa using g2
  have G2 : Hid (ho = ho') := g2
  clear g2
  by_cases g3 : si = si'
  case neg =>
    have hv' : Hid (v = false) := by unfold Hid; rw [← hv]; simp only [decide_eq_false_iff_not]; intro q; exact g3 q.2.2.2.1
    clear hv hg hx hr kg kx kr
    have e3 : (si == si') = false := by simpa using g3
    clear g3
    go_enter Tryd.func31, Tryd.ntmps31
    go_wp2
    go_ret
    exact ⟨ret_bool hv'.out.symm, hw⟩
  have e3 : (si == si') = true := by simpa using g3
  have G3 : Hid (si = si') := g3
  clear g3
  by_cases g4 : wh = wh'
  case neg =>
    have hv' : Hid (v = false) := by unfold Hid; rw [← hv]; simp only [decide_eq_false_iff_not]; intro q; exact g4 q.2.2.2.2.1
    clear hv hg hx hr kg kx kr
    have e4 : (wh == wh') = false := by simpa using g4
    clear g4
    go_enter Tryd.func31, Tryd.ntmps31
    go_wp2
    go_ret
    exact ⟨ret_bool hv'.out.symm, hw⟩
  have e4 : (wh == wh') = true := by simpa using g4
  have G4 : Hid (wh = wh') := g4
  clear g4
  by_cases g5 : su = su'
  case neg =>
    have hv' : Hid (v = false) := by unfold Hid; rw [← hv]; simp only [decide_eq_false_iff_not]; intro q; exact g5 q.2.2.2.2.2.1
    clear hv hg hx hr kg kx kr
    have e5 : (su == su') = false := by simpa using g5
    clear g5
    go_enter Tryd.func31, Tryd.ntmps31
    go_wp2
    go_ret
    exact ⟨ret_bool hv'.out.symm, hw⟩
  have e5 : (su == su') = true := by simpa using g5
  have G5 : Hid (su = su') := g5
  clear g5
  have hv' : decide (SuP gs has o xs nx md lc rs gs' has' o' xs' nx' md' lc' rs') = v := by
    rw [← hv]
    simp only [G0.out, G1.out, G2.out, G3.out, G4.out, G5.out, true_and]
  clear hv
  go_enter Tryd.func31, Tryd.ntmps31
  go_wp2_with fail
  refine (same_up ga a ra gn gc n c rn rc has o nx md lc gs rs xs gb b rb gm gd m d rm rd has' o' nx' md' lc' gs' rs' xs' v _ (hg.new hw) (hx.new hw) (hr.new hw) hgn hn hrn hm1 hm2 hm3 (kg.new hw) (kx.new hw) (kr.new hw) kgn kn krn km1 km2 km3 hv').mono ?_
  rintro e w1 ⟨rfl, hn1⟩
  go_wp2
  go_ret
  exact ⟨rfl, hw.trans hn1⟩

end Go.Proofs.YtljkcijakdhdiaaDoor
