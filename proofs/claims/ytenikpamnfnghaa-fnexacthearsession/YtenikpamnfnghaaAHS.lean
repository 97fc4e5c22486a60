/- What is proved here: for every configuration, session and message the law on HearSession returns true, and they read as they did. No condition. -/
import Derived.Test.YtenikpamnfnghaaS5Open
import Derived.Test.YtenikpamnfnghaaS5Res
import Derived.Test.YtenikpamnfnghaaS5HeS
import Derived.Test.YtenikpamnfnghaaMsOpen
import Derived.Test.YtenikpamnfnghaaMsLaw
import Derived.Test.YtenikpamnfnghaaMsMk
import Derived.Deep.RegionHeld3
import Derived.Deep.CutRange
namespace Go.Proofs.Ytenikpamnfnghaa
open Go.ChangeShapes Go.WideShapes Go.ChangeAt Go.RowKit Go.Sort
set_option linter.unusedVariables false
set_option linter.unusedSimpArgs false

theorem ne5a' {a b c : Nat} (h : b ≤ c) (h' : a + 3 ≤ b) : ¬ c = a := by omega
theorem ne5b' {a b c : Nat} (h : b ≤ c) (h' : a + 3 ≤ b) : ¬ c = a + 1 := by omega
theorem ne5c {a b c : Nat} (h : b ≤ c) (h' : a + 3 ≤ b) : ¬ c = a + 1 + 1 := by omega
theorem ne5d {a b c : Nat} (h : b ≤ c) (h' : a < b) : ¬ c = a := by omega

set_option maxHeartbeats 12800000 in
theorem ahs_walk (ca ci ch st pe ho si sp kd sa mh mi wh su : Int) (ga pa ra : Option Addr) (gn gc pn pc rn rc : Nat) (has : Bool) (mo nx md lc : Int) (gs rs : List (Int × Int)) (xs : List Int) (w : World) (hg : PsAt w ga gs) (hx : NsAt w pa xs) (hr : PsAt w ra rs) (hgn : gs.length = gn) (hpn : xs.length = pn) (hrn : rs.length = rn) (hm1 : gn ≤ maxLen) (hm2 : pn ≤ maxLen) (hm3 : rn ≤ maxLen) :
    Calls Try.prog 3 #[.agg #[.int .i64 ca, .int .i64 ci, .int .i64 ch], .agg #[.int .i64 st, .int .i64 pe, .int .i64 ho, .int .i64 si, .int .i64 sp], .agg #[.int .i64 kd, .int .i64 sa, .int .i64 mh, .int .i64 mi, .int .i64 wh, .int .i64 su, .slice ga gn gc, .bool has, .int .i64 mo, .slice pa pn pc, .int .i64 nx, .int .i64 md, .int .i64 lc, .slice ra rn rc]] w fun e w' => e = .returned (.bool true) ∧ New w w' := by
  have N0 : New w (((w.alloc (.cells #[.int .i64 ca, .int .i64 ci, .int .i64 ch] 23)).alloc (.cells #[.int .i64 st, .int .i64 pe, .int .i64 ho, .int .i64 si, .int .i64 sp] 25)).alloc (.cells #[.int .i64 kd, .int .i64 sa, .int .i64 mh, .int .i64 mi, .int .i64 wh, .int .i64 su, .slice ga gn gc, .bool has, .int .i64 mo, .slice pa pn pc, .int .i64 nx, .int .i64 md, .int .i64 lc, .slice ra rn rc] 33)) := (((New.refl w).alloc _).alloc _).alloc _
  by_cases hbig : 1048576 < gn + pn + rn
  case pos =>
    go_enter Try.func3, Try.ntmps3
    go_wp2_with fail
    refine (szMs_big ga pa ra gn gc pn pc rn rc has mo nx md lc kd sa mh mi wh su _ hbig hm1 hm2 hm3).mono ?_
    rintro e w1 ⟨rfl, hn1⟩
    go_wp2
    go_ret
    exact ⟨rfl, N0.trans hn1⟩
  have k1 : gn ≤ 1048576 := by omega
  have k2 : pn ≤ 1048576 := by omega
  have k3 : rn ≤ 1048576 := by omega
  have hle : gn + pn + rn ≤ 1048576 := by omega
  have bg : Hid (∀ p ∈ gs, In6 p.1 ∧ In6 p.2) := hg.bd
  have bx : Hid (∀ z ∈ xs, In6 z) := hx.bd
  have br : Hid (∀ p ∈ rs, In6 p.1 ∧ In6 p.2) := hr.bd
  have HG : Hid (gs.length = gn) := hgn
  have HX : Hid (xs.length = pn) := hpn
  have HR : Hid (rs.length = rn) := hrn
  clear hm1 hm2 hm3 hgn hpn hrn hbig
  have hS : Hid (∀ W p q r, PsAt W (some ⟨p, 0, none⟩) gs → NsAt W (some ⟨q, 0, none⟩) xs → PsAt W (some ⟨r, 0, none⟩) rs → Calls Try.prog 5 #[.agg #[.int .i64 ca, .int .i64 ci, .int .i64 ch], .agg #[.int .i64 st, .int .i64 pe, .int .i64 ho, .int .i64 si, .int .i64 sp], .agg #[.int .i64 kd, .int .i64 sa, .int .i64 mh, .int .i64 mi, .int .i64 wh, .int .i64 su, .slice (some ⟨p, 0, none⟩) gn gn, .bool has, .int .i64 mo, .slice (some ⟨q, 0, none⟩) pn pn, .int .i64 nx, .int .i64 md, .int .i64 lc, .slice (some ⟨r, 0, none⟩) rn rn]] W (Ans W (hearsR ca ci ch st pe ho si sp kd sa mh (mf kd sa mh mi wh su gs has mo xs nx md lc rs)))) := fun W p q r h1 h2 h3 => specHears ca ci ch st pe ho si sp kd sa mh mi wh su _ _ _ gn gn pn pn rn rn has mo nx md lc gs rs xs W h1 h2 h3 HG.out HX.out HR.out k1 k2 k3
  have hI : Hid (∀ W p q r, PsAt W (some ⟨p, 0, none⟩) gs → NsAt W (some ⟨q, 0, none⟩) xs → PsAt W (some ⟨r, 0, none⟩) rs → Calls Try.prog 9 #[.agg #[.int .i64 ca, .int .i64 ci, .int .i64 ch], .agg #[.int .i64 st, .int .i64 pe, .int .i64 ho, .int .i64 si, .int .i64 sp], .agg #[.int .i64 kd, .int .i64 sa, .int .i64 mh, .int .i64 mi, .int .i64 wh, .int .i64 su, .slice (some ⟨p, 0, none⟩) gn gn, .bool has, .int .i64 mo, .slice (some ⟨q, 0, none⟩) pn pn, .int .i64 nx, .int .i64 md, .int .i64 lc, .slice (some ⟨r, 0, none⟩) rn rn]] W (Ans W (hearsR ca ci ch st pe ho si sp kd sa mh (mf kd sa mh mi wh su gs has mo xs nx md lc rs)))) := fun W p q r h1 h2 h3 => implHears ca ci ch st pe ho si sp kd sa mh mi wh su _ _ _ gn gn pn pn rn rn has mo nx md lc gs rs xs W h1 h2 h3 HG.out HX.out HR.out k1 k2 k3
  generalize hearsR ca ci ch st pe ho si sp kd sa mh (mf kd sa mh mi wh su gs has mo xs nx md lc rs) = r at hS hI
  obtain ⟨c, rt, rp, rh, ri, rs5, say, up, dn, ud⟩ := r
  obtain ⟨n, hn⟩ : ∃ n, Hid (sayN say = n) := ⟨_, rfl⟩
  obtain ⟨N, hN⟩ : ∃ N, Hid (mkC5 say = N) := ⟨_, rfl⟩
  have hN0 : 0 ≤ N := by rw [← hN.out]; cases say <;> simp [mkC5]
  have zN : (N != N) = false := by simp
  have bA0 : Blk (((w.alloc (.cells #[.int .i64 ca, .int .i64 ci, .int .i64 ch] 23)).alloc (.cells #[.int .i64 st, .int .i64 pe, .int .i64 ho, .int .i64 si, .int .i64 sp] 25)).alloc (.cells #[.int .i64 kd, .int .i64 sa, .int .i64 mh, .int .i64 mi, .int .i64 wh, .int .i64 su, .slice ga gn gc, .bool has, .int .i64 mo, .slice pa pn pc, .int .i64 nx, .int .i64 md, .int .i64 lc, .slice ra rn rc] 33)) w.heap.size 23 #[.int .i64 ca, .int .i64 ci, .int .i64 ch] := ((Blk.mk _ _ _ _ rfl).alloc _).alloc _
  have bB0 : Blk (((w.alloc (.cells #[.int .i64 ca, .int .i64 ci, .int .i64 ch] 23)).alloc (.cells #[.int .i64 st, .int .i64 pe, .int .i64 ho, .int .i64 si, .int .i64 sp] 25)).alloc (.cells #[.int .i64 kd, .int .i64 sa, .int .i64 mh, .int .i64 mi, .int .i64 wh, .int .i64 su, .slice ga gn gc, .bool has, .int .i64 mo, .slice pa pn pc, .int .i64 nx, .int .i64 md, .int .i64 lc, .slice ra rn rc] 33)) (w.heap.size + 1) 25 #[.int .i64 st, .int .i64 pe, .int .i64 ho, .int .i64 si, .int .i64 sp] := (Blk.mk _ _ _ _ (by simp)).alloc _
  have bM0 : Blk (((w.alloc (.cells #[.int .i64 ca, .int .i64 ci, .int .i64 ch] 23)).alloc (.cells #[.int .i64 st, .int .i64 pe, .int .i64 ho, .int .i64 si, .int .i64 sp] 25)).alloc (.cells #[.int .i64 kd, .int .i64 sa, .int .i64 mh, .int .i64 mi, .int .i64 wh, .int .i64 su, .slice ga gn gc, .bool has, .int .i64 mo, .slice pa pn pc, .int .i64 nx, .int .i64 md, .int .i64 lc, .slice ra rn rc] 33)) (w.heap.size + 1 + 1) 33 #[.int .i64 kd, .int .i64 sa, .int .i64 mh, .int .i64 mi, .int .i64 wh, .int .i64 su, .slice ga gn gc, .bool has, .int .i64 mo, .slice pa pn pc, .int .i64 nx, .int .i64 md, .int .i64 lc, .slice ra rn rc] := Blk.mk _ _ _ _ (by simp)
  go_enter Try.func3, Try.ntmps3
  go_wp2_with fail
  refine (szMs_ok ga pa ra gn gc pn pc rn rc has mo nx md lc kd sa mh mi wh su _ hle).mono ?_
  rintro e w1 ⟨rfl, hn1⟩
  generalize 1048576 - gn - pn - rn = left at *
  have bA1 := bA0.new hn1
  have bB1 := bB0.new hn1
  have bM1 := bM0.new hn1
  have N1 := N0.trans hn1
  have sz1 : w.heap.size + 3 ≤ w1.heap.size := by have := hn1.size; simp at this; omega
  clear bA0 bB0 bM0 N0 hn1 hle
  go_upto_region 5 with fail
  go_cut [8] from 20 to 26 (fun v wx => ∃ B g a, v = .pointer (some ⟨B, 0, none⟩) ∧ Blk wx B 38 #[.int .i64 c, .int .i64 rt, .int .i64 rp, .int .i64 rh, .int .i64 ri, .int .i64 rs5, .slice a n n, .bool up, .bool dn, .bool ud] ∧ SayAt wx g (.slice a n n) say ∧ w1.heap.size ≤ B ∧ w1.heap.size ≤ g ∧ B ≠ g ∧ B < wx.heap.size ∧ g < wx.heap.size ∧ New w1 wx)
  case first =>
    have cA := bA1.cells
    have cB := bB1.cells
    have cT := bM1.cells
    have dA := bA1
    have dB := bB1
    have dT := bM1
    have dN : New w1 w1 := New.refl _
    go_region_held3 (fun W => (∀ j, W.cell? ⟨w.heap.size, j, none⟩ = #[Value.int .i64 ca, .int .i64 ci, .int .i64 ch][j]?) ∧ (∀ j, W.cell? ⟨w.heap.size + 1, j, none⟩ = #[Value.int .i64 st, .int .i64 pe, .int .i64 ho, .int .i64 si, .int .i64 sp][j]?) ∧ (∀ j, W.cell? ⟨w.heap.size + 1 + 1, j, none⟩ = #[Value.int .i64 kd, .int .i64 sa, .int .i64 mh, .int .i64 mi, .int .i64 wh, .int .i64 su, .slice ga gn gc, .bool has, .int .i64 mo, .slice pa pn pc, .int .i64 nx, .int .i64 md, .int .i64 lc, .slice ra rn rc][j]?)) (exact ⟨by intro j; (try simp (disch := exact neA) only [cell_set5]); first | exact cA j | exact dA.cells j | exact (dA.alloc _).cells j, by intro j; (try simp (disch := exact neB) only [cell_set5]); first | exact cB j | exact dB.cells j | exact (dB.alloc _).cells j, by intro j; (try simp (disch := exact neT) only [cell_set5]); first | exact cT j | exact dT.cells j | exact (dT.alloc _).cells j⟩)
      (first
        | (go_at_call 6; refine (toCfg_any ca ci ch _).mono ?_; rintro e wx ⟨rfl, h1⟩; (try simp only [New.drew_mark, New.alloc_mark] at h1); first | (have hM := And.right h1; have h1 := And.left h1; have dV := Blk.laid hM; have cV := dV.cells; have fV := dV.frees; have lV := dV.lt; have dL := dN.size; have neA := ne5a' dL sz1; have neB := ne5b' dL sz1; have neT := ne5c dL sz1; have dA := dA.new h1; have dB := dB.new h1; have dT := dT.new h1; (try (have pp := pp.new h1; have pq := pq.new h1; have pr := pr.new h1)); have dN := dN.trans h1; have dS := dN.size) | (have dA := dA.new h1; have dB := dB.new h1; have dT := dT.new h1; (try (have pp := pp.new h1; have pq := pq.new h1; have pr := pr.new h1)); have dN := dN.trans h1; have dS := dN.size; (try (have dV := dV.new h1; have cV := dV.cells; have fV := dV.frees; have lV := dV.lt))))
        | (go_at_call 7; refine (toSes_any st pe ho si sp _).mono ?_; rintro e wx ⟨rfl, h2⟩; (try simp only [New.drew_mark, New.alloc_mark] at h2); first | (have hM := And.right h2; have h2 := And.left h2; have dV := Blk.laid hM; have cV := dV.cells; have fV := dV.frees; have lV := dV.lt; have dL := dN.size; have neA := ne5a' dL sz1; have neB := ne5b' dL sz1; have neT := ne5c dL sz1; have dA := dA.new h2; have dB := dB.new h2; have dT := dT.new h2; (try (have pp := pp.new h2; have pq := pq.new h2; have pr := pr.new h2)); have dN := dN.trans h2; have dS := dN.size) | (have dA := dA.new h2; have dB := dB.new h2; have dT := dT.new h2; (try (have pp := pp.new h2; have pq := pq.new h2; have pr := pr.new h2)); have dN := dN.trans h2; have dS := dN.size; (try (have dV := dV.new h2; have cV := dV.cells; have fV := dV.frees; have lV := dV.lt))))
        | (go_at_call 8; refine (toMs_any ga pa ra gn gc pn pc rn rc has mo nx md lc gs rs xs kd sa mh mi wh su _ (by first | exact (hg.new N1).new dN | exact ((hg.new N1).new dN).new ((New.refl _).alloc _)) (by first | exact (hx.new N1).new dN | exact ((hx.new N1).new dN).new ((New.refl _).alloc _)) (by first | exact (hr.new N1).new dN | exact ((hr.new N1).new dN).new ((New.refl _).alloc _)) HG.out HX.out HR.out k1 k2 k3).mono ?_; rintro e wx ⟨p, q, r, rfl, hl1, hl2, hl3, op, oq, or, h4⟩; have pp := op.ps bg.out; have pq := oq.ns bx.out; have pr := or.ps br.out; (try simp only [New.drew_mark, New.alloc_mark] at h4); first | (have hM := And.right h4; have h4 := And.left h4; have dV := Blk.laid hM; have cV := dV.cells; have fV := dV.frees; have lV := dV.lt; have dL := dN.size; have neA := ne5a' dL sz1; have neB := ne5b' dL sz1; have neT := ne5c dL sz1; have dA := dA.new h4; have dB := dB.new h4; have dT := dT.new h4; have dN := dN.trans h4; have dS := dN.size) | (have dA := dA.new h4; have dB := dB.new h4; have dT := dT.new h4; have dN := dN.trans h4; have dS := dN.size; (try (have dV := dV.new h4; have cV := dV.cells; have fV := dV.frees; have lV := dV.lt))))
        | (go_at_call 5; refine (hS.out _ _ _ _ (by first | exact pp | exact pp.new ((New.refl _).alloc _)) (by first | exact pq | exact pq.new ((New.refl _).alloc _)) (by first | exact pr | exact pr.new ((New.refl _).alloc _))).mono ?_; rintro e wx hxx; obtain ⟨g, a, rfl, hgg, hl, hs, h3⟩ := hxx.opened hn; (try simp at hgg); (try simp only [New.drew_mark, New.alloc_mark] at h3); first | (have hM := And.right h3; have h3 := And.left h3; have dV := Blk.laid hM; have cV := dV.cells; have fV := dV.frees; have lV := dV.lt; have dL := dN.size; have neA := ne5a' dL sz1; have neB := ne5b' dL sz1; have neT := ne5c dL sz1; have dA := dA.new h3; have dB := dB.new h3; have dT := dT.new h3; have dN := dN.trans h3; have dS := dN.size; have neG := neg5' hgg) | ((try have neG := neg5 lV hgg); have dA := dA.new h3; have dB := dB.new h3; have dT := dT.new h3; have dN := dN.trans h3; have dS := dN.size; (try (have dV := dV.new h3; have cV := dV.cells; have fV := dV.frees; have lV := dV.lt)))))
    all_goals
      go_wp2_with fail
      go_meet
      case rel =>
        first
        | (have hq := dV
           refine ⟨_, g, a, rfl, blk10 _ _ _ _ _ _ _ _ _ _ hq, ?_, dL, ?_, neG, ?_, ?_, ?_⟩
           · simp (disch := exact neG) only [SayAt.set5]; exact hs
           · omega
           · simp [World.setCell]; exact lV
           · simp [World.setCell]; exact hl
           · simp (disch := exact dL) only [New.set5]; exact dN)
        | (refine ⟨_, g, a, rfl, Blk.mk _ _ _ _ rfl, hs.new ((New.refl _).alloc _), dS, ?_, ?_, ?_, ?_, dN.alloc _⟩
           · omega
           · omega
           · simp
           · simp; omega)
  case rest =>
  obtain ⟨B4, g4, a4, rfl, bY4, sY4, lB4, lg4, ne4, ltB4, ltg4, hc4⟩ := hcut
  generalize wc = w4 at *
  have bA4 := bA1.new hc4
  have bB4 := bB1.new hc4
  have bM4 := bM1.new hc4
  have N4 := N1.trans hc4
  clear bA1 bB1 bM1 N1
  have sz4 := Nat.le_trans sz1 hc4.size
  have bW4 := bY4
  have sW4 := sY4
  clear bY4 sY4 hc4
  have cM := bM4.cells
  go_wp2_with fail
  refine (toMs_any ga pa ra gn gc pn pc rn rc has mo nx md lc gs rs xs kd sa mh mi wh su _ (hg.new N4) (hx.new N4) (hr.new N4) HG.out HX.out HR.out k1 k2 k3).mono ?_
  rintro e w5 ⟨p6, q6, r6, rfl, hp6, hpq6, hqr6, op5, oq5, or5, hn5⟩
  go_upto_region 7 with fail
  have hal : New w5 (w5.alloc (.cells #[.int .i64 kd, .int .i64 sa, .int .i64 mh, .int .i64 mi, .int .i64 wh, .int .i64 su, .slice (some ⟨p6, 0, none⟩) gn gn, .bool has, .int .i64 mo, .slice (some ⟨q6, 0, none⟩) pn pn, .int .i64 nx, .int .i64 md, .int .i64 lc, .slice (some ⟨r6, 0, none⟩) rn rn] 48)) := (New.refl w5).alloc _
  have bX6 : Blk (w5.alloc (.cells #[.int .i64 kd, .int .i64 sa, .int .i64 mh, .int .i64 mi, .int .i64 wh, .int .i64 su, .slice (some ⟨p6, 0, none⟩) gn gn, .bool has, .int .i64 mo, .slice (some ⟨q6, 0, none⟩) pn pn, .int .i64 nx, .int .i64 md, .int .i64 lc, .slice (some ⟨r6, 0, none⟩) rn rn] 48)) w5.heap.size 48 #[.int .i64 kd, .int .i64 sa, .int .i64 mh, .int .i64 mi, .int .i64 wh, .int .i64 su, .slice (some ⟨p6, 0, none⟩) gn gn, .bool has, .int .i64 mo, .slice (some ⟨q6, 0, none⟩) pn pn, .int .i64 nx, .int .i64 md, .int .i64 lc, .slice (some ⟨r6, 0, none⟩) rn rn] := Blk.mk _ _ _ _ rfl
  have lr6 := or5.lt
  have op6 := op5.new hal
  have oq6 := oq5.new hal
  have or6 := or5.new hal
  have k5 := hn5.size
  have bA6 := bA4.new (hn5.trans hal)
  have bB6 := bB4.new (hn5.trans hal)
  have bM6 := bM4.new (hn5.trans hal)
  have bW6 := bW4.new (hn5.trans hal)
  have sW6 := sW4.new (hn5.trans hal)
  have N6 := N4.trans (hn5.trans hal)
  clear bA4 bB4 bM4 bW4 sW4 N4
  have sz6 : w.heap.size + 3 ≤ (w5.alloc (.cells #[.int .i64 kd, .int .i64 sa, .int .i64 mh, .int .i64 mi, .int .i64 wh, .int .i64 su, .slice (some ⟨p6, 0, none⟩) gn gn, .bool has, .int .i64 mo, .slice (some ⟨q6, 0, none⟩) pn pn, .int .i64 nx, .int .i64 md, .int .i64 lc, .slice (some ⟨r6, 0, none⟩) rn rn] 48)).heap.size := by simp; omega
  have ltB6 : w5.heap.size < (w5.alloc (.cells #[.int .i64 kd, .int .i64 sa, .int .i64 mh, .int .i64 mi, .int .i64 wh, .int .i64 su, .slice (some ⟨p6, 0, none⟩) gn gn, .bool has, .int .i64 mo, .slice (some ⟨q6, 0, none⟩) pn pn, .int .i64 nx, .int .i64 md, .int .i64 lc, .slice (some ⟨r6, 0, none⟩) rn rn] 48)).heap.size := by simp
  have s6 : w5.heap.size + 1 ≤ (w5.alloc (.cells #[.int .i64 kd, .int .i64 sa, .int .i64 mh, .int .i64 mi, .int .i64 wh, .int .i64 su, .slice (some ⟨p6, 0, none⟩) gn gn, .bool has, .int .i64 mo, .slice (some ⟨q6, 0, none⟩) pn pn, .int .i64 nx, .int .i64 md, .int .i64 lc, .slice (some ⟨r6, 0, none⟩) rn rn] 48)).heap.size := by simp
  clear hn5 hal op5 oq5 or5 cM
  generalize w5.alloc (.cells #[.int .i64 kd, .int .i64 sa, .int .i64 mh, .int .i64 mi, .int .i64 wh, .int .i64 su, .slice (some ⟨p6, 0, none⟩) gn gn, .bool has, .int .i64 mo, .slice (some ⟨q6, 0, none⟩) pn pn, .int .i64 nx, .int .i64 md, .int .i64 lc, .slice (some ⟨r6, 0, none⟩) rn rn] 48) = w6 at *
  have pX6 := op6.ps bg.out
  have qX6 := oq6.ns bx.out
  have rX6 := or6.ps br.out
  go_upto_region 7 with fail
  go_cut [10] from 29 to 34 (fun v wx => ∃ B g a, v = .pointer (some ⟨B, 0, none⟩) ∧ Blk wx B 38 #[.int .i64 c, .int .i64 rt, .int .i64 rp, .int .i64 rh, .int .i64 ri, .int .i64 rs5, .slice a n n, .bool up, .bool dn, .bool ud] ∧ SayAt wx g (.slice a n n) say ∧ w6.heap.size ≤ B ∧ w6.heap.size ≤ g ∧ B ≠ g ∧ B < wx.heap.size ∧ g < wx.heap.size ∧ New w6 wx)
  case first =>
    have cA := bA6.cells
    have cB := bB6.cells
    have cT := bX6.cells
    have dA := bA6
    have dB := bB6
    have dT := bX6
    have dN : New w6 w6 := New.refl _
    have pp := pX6
    have pq := qX6
    have pr := rX6
    go_region_held3 (fun W => (∀ j, W.cell? ⟨w.heap.size, j, none⟩ = #[Value.int .i64 ca, .int .i64 ci, .int .i64 ch][j]?) ∧ (∀ j, W.cell? ⟨w.heap.size + 1, j, none⟩ = #[Value.int .i64 st, .int .i64 pe, .int .i64 ho, .int .i64 si, .int .i64 sp][j]?) ∧ (∀ j, W.cell? ⟨w5.heap.size, j, none⟩ = #[Value.int .i64 kd, .int .i64 sa, .int .i64 mh, .int .i64 mi, .int .i64 wh, .int .i64 su, .slice (some ⟨p6, 0, none⟩) gn gn, .bool has, .int .i64 mo, .slice (some ⟨q6, 0, none⟩) pn pn, .int .i64 nx, .int .i64 md, .int .i64 lc, .slice (some ⟨r6, 0, none⟩) rn rn][j]?)) (exact ⟨by intro j; (try simp (disch := exact neA) only [cell_set5]); first | exact cA j | exact dA.cells j | exact (dA.alloc _).cells j, by intro j; (try simp (disch := exact neB) only [cell_set5]); first | exact cB j | exact dB.cells j | exact (dB.alloc _).cells j, by intro j; (try simp (disch := exact neT) only [cell_set5]); first | exact cT j | exact dT.cells j | exact (dT.alloc _).cells j⟩)
      (first
        | (go_at_call 6; refine (toCfg_any ca ci ch _).mono ?_; rintro e wx ⟨rfl, h1⟩; (try simp only [New.drew_mark, New.alloc_mark] at h1); first | (have hM := And.right h1; have h1 := And.left h1; have dV := Blk.laid hM; have cV := dV.cells; have fV := dV.frees; have lV := dV.lt; have dL := dN.size; have neA := ne5a' dL sz6; have neB := ne5b' dL sz6; have neT := ne5d dL ltB6; have dA := dA.new h1; have dB := dB.new h1; have dT := dT.new h1; have pp := pp.new h1; have pq := pq.new h1; have pr := pr.new h1; have dN := dN.trans h1; have dS := dN.size) | (have dA := dA.new h1; have dB := dB.new h1; have dT := dT.new h1; have pp := pp.new h1; have pq := pq.new h1; have pr := pr.new h1; have dN := dN.trans h1; have dS := dN.size; (try (have dV := dV.new h1; have cV := dV.cells; have fV := dV.frees; have lV := dV.lt))))
        | (go_at_call 7; refine (toSes_any st pe ho si sp _).mono ?_; rintro e wx ⟨rfl, h2⟩; (try simp only [New.drew_mark, New.alloc_mark] at h2); first | (have hM := And.right h2; have h2 := And.left h2; have dV := Blk.laid hM; have cV := dV.cells; have fV := dV.frees; have lV := dV.lt; have dL := dN.size; have neA := ne5a' dL sz6; have neB := ne5b' dL sz6; have neT := ne5d dL ltB6; have dA := dA.new h2; have dB := dB.new h2; have dT := dT.new h2; have pp := pp.new h2; have pq := pq.new h2; have pr := pr.new h2; have dN := dN.trans h2; have dS := dN.size) | (have dA := dA.new h2; have dB := dB.new h2; have dT := dT.new h2; have pp := pp.new h2; have pq := pq.new h2; have pr := pr.new h2; have dN := dN.trans h2; have dS := dN.size; (try (have dV := dV.new h2; have cV := dV.cells; have fV := dV.frees; have lV := dV.lt))))
        | (go_at_call 9; refine (hI.out _ _ _ _ (by first | exact pp | exact pp.new ((New.refl _).alloc _)) (by first | exact pq | exact pq.new ((New.refl _).alloc _)) (by first | exact pr | exact pr.new ((New.refl _).alloc _))).mono ?_; rintro e wx hxx; obtain ⟨g, a, rfl, hgg, hl, hs, h3⟩ := hxx.opened hn; (try simp at hgg); (try simp only [New.drew_mark, New.alloc_mark] at h3); first | (have hM := And.right h3; have h3 := And.left h3; have dV := Blk.laid hM; have cV := dV.cells; have fV := dV.frees; have lV := dV.lt; have dL := dN.size; have neA := ne5a' dL sz6; have neB := ne5b' dL sz6; have neT := ne5d dL ltB6; have dA := dA.new h3; have dB := dB.new h3; have dT := dT.new h3; have dN := dN.trans h3; have dS := dN.size; have neG := neg5' hgg) | ((try have neG := neg5 lV hgg); have dA := dA.new h3; have dB := dB.new h3; have dT := dT.new h3; have dN := dN.trans h3; have dS := dN.size; (try (have dV := dV.new h3; have cV := dV.cells; have fV := dV.frees; have lV := dV.lt)))))
    all_goals
      go_wp2_with fail
      go_meet
      case rel =>
        first
        | (have hq := dV
           refine ⟨_, g, a, rfl, blk10 _ _ _ _ _ _ _ _ _ _ hq, ?_, dL, ?_, neG, ?_, ?_, ?_⟩
           · simp (disch := exact neG) only [SayAt.set5]; exact hs
           · omega
           · simp [World.setCell]; exact lV
           · simp [World.setCell]; exact hl
           · simp (disch := exact dL) only [New.set5]; exact dN)
        | (refine ⟨_, g, a, rfl, Blk.mk _ _ _ _ rfl, hs.new ((New.refl _).alloc _), dS, ?_, ?_, ?_, ?_, dN.alloc _⟩
           · omega
           · omega
           · simp
           · simp; omega)
  case rest =>
  obtain ⟨B8, g8, a8, rfl, bY8, sY8, lB8, lg8, ne8, ltB8, ltg8, hc8⟩ := hcut
  generalize wc = w8 at *
  have bA8 := bA6.new hc8
  have bB8 := bB6.new hc8
  have bM8 := bM6.new hc8
  have bW8 := bW6.new hc8
  have sW8 := sW6.new hc8
  have bX8 := bX6.new hc8
  have op8 := op6.new hc8
  have oq8 := oq6.new hc8
  have or8 := or6.new hc8
  have N8 := N6.trans hc8
  clear bA6 bB6 bM6 bW6 sW6 bX6 op6 oq6 or6 N6
  have sz8 := Nat.le_trans sz6 hc8.size
  have bG8 := bY8
  have sG8 := sY8
  have k8 := hc8.size
  clear bY8 sY8 hc8 pX6 qX6 rX6
  have cW := bW8.cells
  have cG := bG8.cells
  go_wp2_with fail
  refine (eqSR ⟨c, rt, rp, rh, ri, rs5, say, up, dn, ud⟩ g8 g4 _ _ _ sG8 sW8).mono ?_
  rintro e w9 ⟨rfl, hn9⟩
  have k9 := hn9.size
  have bA9 := bA8.new hn9
  have bB9 := bB8.new hn9
  have bM9 := bM8.new hn9
  have bW9 := bW8.new hn9
  have sW9 := sW8.new hn9
  have bX9 := bX8.new hn9
  have op9 := op8.new hn9
  have oq9 := oq8.new hn9
  have or9 := or8.new hn9
  have bG9 := bG8.new hn9
  have sG9 := sG8.new hn9
  have N9 := N8.trans hn9
  clear bA8 bB8 bM8 bW8 sW8 bX8 op8 oq8 or8 bG8 sG8 N8
  clear cW cG
  have cM := bM9.cells
  have cX := bX9.cells
  go_wp2_with fail
  go_region_held3 (fun W => (∀ j, W.cell? ⟨w.heap.size + 1 + 1, j, none⟩ = #[Value.int .i64 kd, .int .i64 sa, .int .i64 mh, .int .i64 mi, .int .i64 wh, .int .i64 su, .slice ga gn gc, .bool has, .int .i64 mo, .slice pa pn pc, .int .i64 nx, .int .i64 md, .int .i64 lc, .slice ra rn rc][j]?) ∧ (∀ j, W.cell? ⟨w5.heap.size, j, none⟩ = #[Value.int .i64 kd, .int .i64 sa, .int .i64 mh, .int .i64 mi, .int .i64 wh, .int .i64 su, .slice (some ⟨p6, 0, none⟩) gn gn, .bool has, .int .i64 mo, .slice (some ⟨q6, 0, none⟩) pn pn, .int .i64 nx, .int .i64 md, .int .i64 lc, .slice (some ⟨r6, 0, none⟩) rn rn][j]?)) (first | exact ⟨cM, cX⟩ | exact ⟨cM7, cX7⟩ | exact ⟨cM8, cX8⟩)
    (first
      | (go_at_call 8; refine (toMs_any ga pa ra gn gc pn pc rn rc has mo nx md lc gs rs xs kd sa mh mi wh su _ ?_ ?_ ?_ HG.out HX.out HR.out k1 k2 k3).mono ?_; exact (hg.new N9).new ((New.refl _).drew); exact (hx.new N9).new ((New.refl _).drew); exact (hr.new N9).new ((New.refl _).drew); rintro e w10 ⟨p7, q7, r7, rfl, -, -, -, op7, oq7, or7, hn10⟩; have cM7 := (bM9.new (((New.refl _).drew).trans hn10)).cells; have cX7 := (bX9.new (((New.refl _).drew).trans hn10)).cells)
      | (go_at_call 11; refine (eqMs_any _ _ _ _ _ _ gn gn pn pn rn rn gn pn rn has mo nx md lc gs rs xs kd sa mh mi wh su _ ?_ ?_ ?_ ?_ ?_ ?_ HG.out HX.out HR.out k1 k2 k3).mono ?_; exact (op9.ps bg.out).new (((New.refl _).drew).trans hn10); exact (oq9.ns bx.out).new (((New.refl _).drew).trans hn10); exact (or9.ps br.out).new (((New.refl _).drew).trans hn10); exact op7.ps bg.out; exact oq7.ns bx.out; exact or7.ps br.out; rintro e w11 ⟨rfl, hn11⟩; have cM8 := (bM9.new ((((New.refl _).drew).trans hn10).trans hn11)).cells; have cX8 := (bX9.new ((((New.refl _).drew).trans hn10).trans hn11)).cells))
  have hc11 : New w9 w11 := ((((New.refl _).drew).trans hn10).trans hn11)
  have k11 := hc11.size
  have bA11 := bA9.new hc11
  have bB11 := bB9.new hc11
  have bM11 := bM9.new hc11
  have bW11 := bW9.new hc11
  have sW11 := sW9.new hc11
  have bX11 := bX9.new hc11
  have op11 := op9.new hc11
  have oq11 := oq9.new hc11
  have or11 := or9.new hc11
  have bG11 := bG9.new hc11
  have sG11 := sG9.new hc11
  have N11 := N9.trans hc11
  clear bA9 bB9 bM9 bW9 sW9 bX9 op9 oq9 or9 bG9 sG9 N9
  clear hn10 hn11 hc11 cM cX cM7 cX7 cM8 cX8 op7 oq7 or7
  have cX := bX11.cells
  go_wp2_with fail
  refine (markMs_t p6 q6 r6 gn gn pn pn rn rn has mo nx md lc 1 kd sa mh mi wh su gs rs xs _ op11 oq11 or11 (by omega) (by omega) (by omega) k1 k2 k3 (by omega) (by omega)).mono ?_
  rintro e w12 ⟨rfl, -, -, -, ht12⟩
  have kpos : 0 ≤ (1 : Int) + 2 * (gn : Int) + pn + 2 * (rn : Int) := by omega
  generalize (1 : Int) + 2 * (gn : Int) + pn + 2 * (rn : Int) = K at *
  have k12 := ht12.size
  clear cX op11 oq11 or11
  clear bX11
  have bA12 := bA11.turn ht12 (by omega)
  have bB12 := bB11.turn ht12 (by omega)
  have bM12 := bM11.turn ht12 (by omega)
  have bW12 := bW11.turn ht12 (by omega)
  have sW12 := sW11.turn ht12 (by omega)
  have bG12 := bG11.turn ht12 (by omega)
  have sG12 := sG11.turn ht12 (by omega)
  have N12 := N11.before ht12 (fun i hi e => by omega)
  clear bA11 bB11 bM11 bW11 sW11 bG11 sG11 N11 ht12
  have cW := bW12.cells
  have cG := bG12.cells
  go_wp2_with fail
  refine (eqSR ⟨c, rt, rp, rh, ri, rs5, say, up, dn, ud⟩ g8 g4 _ _ _ sG12 sW12).mono ?_
  rintro e w13 ⟨rfl, hn13⟩
  have k13 := hn13.size
  have bA13 := bA12.new hn13
  have bB13 := bB12.new hn13
  have bM13 := bM12.new hn13
  have bW13 := bW12.new hn13
  have sW13 := sW12.new hn13
  have bG13 := bG12.new hn13
  have sG13 := sG12.new hn13
  have N13 := N12.trans hn13
  clear bA12 bB12 bM12 bW12 sW12 bG12 sG12 N12
  clear cW cG hn13
  have cG := bG13.cells
  go_wp2_with fail
  refine (mkSR ⟨c, rt, rp, rh, ri, rs5, say, up, dn, ud⟩ g8 _ _ sG13).mono ?_
  rintro e w14 ⟨rfl, hm14, ht14⟩
  rw [show mkC5 (Rs.say ⟨c, rt, rp, rh, ri, rs5, say, up, dn, ud⟩) = N from hN.out]
  have k14 := ht14.size
  have bA14 := bA13.turn ht14 (by omega)
  have bB14 := bB13.turn ht14 (by omega)
  have bM14 := bM13.turn ht14 (by omega)
  have bW14 := bW13.turn ht14 (by omega)
  have sW14 := sW13.turn ht14 (by omega)
  have bG14 := bG13.turn ht14 (by omega)
  have N14 := N13.before ht14 (fun i hi e => by omega)
  clear bA13 bB13 bM13 bW13 sW13 bG13 sG13 N13 ht14 cG
  have cG := bG14.cells
  go_wp2_with fail
  refine (hdSR ⟨c, rt, rp, rh, ri, rs5, say, up, dn, ud⟩ g8 _ _ hm14).mono ?_
  rintro e w15 ⟨rfl, hn15⟩
  rw [show mkC5 (Rs.say ⟨c, rt, rp, rh, ri, rs5, say, up, dn, ud⟩) = N from hN.out]
  have k15 := hn15.size
  have bA15 := bA14.new hn15
  have bB15 := bB14.new hn15
  have bM15 := bM14.new hn15
  have bW15 := bW14.new hn15
  have sW15 := sW14.new hn15
  have bG15 := bG14.new hn15
  have hm15 := hm14.new hn15
  have N15 := N14.trans hn15
  clear bA14 bB14 bM14 bW14 sW14 bG14 hm14 N14
  clear cG
  have sz15 : w.heap.size + 3 ≤ w15.heap.size := by omega
  clear hn15
  go_upto_region 24 with fail
  go_cut [14] from 66 to 72 (fun v wx => ∃ B g a, v = .pointer (some ⟨B, 0, none⟩) ∧ Blk wx B 38 #[.int .i64 c, .int .i64 rt, .int .i64 rp, .int .i64 rh, .int .i64 ri, .int .i64 rs5, .slice a n n, .bool up, .bool dn, .bool ud] ∧ SayAt wx g (.slice a n n) say ∧ w15.heap.size ≤ B ∧ w15.heap.size ≤ g ∧ B ≠ g ∧ B < wx.heap.size ∧ g < wx.heap.size ∧ New w15 wx)
  case first =>
    have cA := bA15.cells
    have cB := bB15.cells
    have cT := bM15.cells
    have dA := bA15
    have dB := bB15
    have dT := bM15
    have dN : New w15 w15 := New.refl _
    go_region_held3 (fun W => (∀ j, W.cell? ⟨w.heap.size, j, none⟩ = #[Value.int .i64 ca, .int .i64 ci, .int .i64 ch][j]?) ∧ (∀ j, W.cell? ⟨w.heap.size + 1, j, none⟩ = #[Value.int .i64 st, .int .i64 pe, .int .i64 ho, .int .i64 si, .int .i64 sp][j]?) ∧ (∀ j, W.cell? ⟨w.heap.size + 1 + 1, j, none⟩ = #[Value.int .i64 kd, .int .i64 sa, .int .i64 mh, .int .i64 mi, .int .i64 wh, .int .i64 su, .slice ga gn gc, .bool has, .int .i64 mo, .slice pa pn pc, .int .i64 nx, .int .i64 md, .int .i64 lc, .slice ra rn rc][j]?)) (exact ⟨by intro j; (try simp (disch := exact neA) only [cell_set5]); first | exact cA j | exact dA.cells j | exact (dA.alloc _).cells j, by intro j; (try simp (disch := exact neB) only [cell_set5]); first | exact cB j | exact dB.cells j | exact (dB.alloc _).cells j, by intro j; (try simp (disch := exact neT) only [cell_set5]); first | exact cT j | exact dT.cells j | exact (dT.alloc _).cells j⟩)
      (first
        | (go_at_call 6; refine (toCfg_any ca ci ch _).mono ?_; rintro e wx ⟨rfl, h1⟩; (try simp only [New.drew_mark, New.alloc_mark] at h1); first | (have hM := And.right h1; have h1 := And.left h1; have dV := Blk.laid hM; have cV := dV.cells; have fV := dV.frees; have lV := dV.lt; have dL := dN.size; have neA := ne5a' dL sz15; have neB := ne5b' dL sz15; have neT := ne5c dL sz15; have dA := dA.new h1; have dB := dB.new h1; have dT := dT.new h1; (try (have pp := pp.new h1; have pq := pq.new h1; have pr := pr.new h1)); have dN := dN.trans h1; have dS := dN.size) | (have dA := dA.new h1; have dB := dB.new h1; have dT := dT.new h1; (try (have pp := pp.new h1; have pq := pq.new h1; have pr := pr.new h1)); have dN := dN.trans h1; have dS := dN.size; (try (have dV := dV.new h1; have cV := dV.cells; have fV := dV.frees; have lV := dV.lt))))
        | (go_at_call 7; refine (toSes_any st pe ho si sp _).mono ?_; rintro e wx ⟨rfl, h2⟩; (try simp only [New.drew_mark, New.alloc_mark] at h2); first | (have hM := And.right h2; have h2 := And.left h2; have dV := Blk.laid hM; have cV := dV.cells; have fV := dV.frees; have lV := dV.lt; have dL := dN.size; have neA := ne5a' dL sz15; have neB := ne5b' dL sz15; have neT := ne5c dL sz15; have dA := dA.new h2; have dB := dB.new h2; have dT := dT.new h2; (try (have pp := pp.new h2; have pq := pq.new h2; have pr := pr.new h2)); have dN := dN.trans h2; have dS := dN.size) | (have dA := dA.new h2; have dB := dB.new h2; have dT := dT.new h2; (try (have pp := pp.new h2; have pq := pq.new h2; have pr := pr.new h2)); have dN := dN.trans h2; have dS := dN.size; (try (have dV := dV.new h2; have cV := dV.cells; have fV := dV.frees; have lV := dV.lt))))
        | (go_at_call 8; refine (toMs_any ga pa ra gn gc pn pc rn rc has mo nx md lc gs rs xs kd sa mh mi wh su _ (by first | exact (hg.new N15).new dN | exact ((hg.new N15).new dN).new ((New.refl _).alloc _)) (by first | exact (hx.new N15).new dN | exact ((hx.new N15).new dN).new ((New.refl _).alloc _)) (by first | exact (hr.new N15).new dN | exact ((hr.new N15).new dN).new ((New.refl _).alloc _)) HG.out HX.out HR.out k1 k2 k3).mono ?_; rintro e wx ⟨p, q, r, rfl, hl1, hl2, hl3, op, oq, or, h4⟩; have pp := op.ps bg.out; have pq := oq.ns bx.out; have pr := or.ps br.out; (try simp only [New.drew_mark, New.alloc_mark] at h4); first | (have hM := And.right h4; have h4 := And.left h4; have dV := Blk.laid hM; have cV := dV.cells; have fV := dV.frees; have lV := dV.lt; have dL := dN.size; have neA := ne5a' dL sz15; have neB := ne5b' dL sz15; have neT := ne5c dL sz15; have dA := dA.new h4; have dB := dB.new h4; have dT := dT.new h4; have dN := dN.trans h4; have dS := dN.size) | (have dA := dA.new h4; have dB := dB.new h4; have dT := dT.new h4; have dN := dN.trans h4; have dS := dN.size; (try (have dV := dV.new h4; have cV := dV.cells; have fV := dV.frees; have lV := dV.lt))))
        | (go_at_call 9; refine (hI.out _ _ _ _ (by first | exact pp | exact pp.new ((New.refl _).alloc _)) (by first | exact pq | exact pq.new ((New.refl _).alloc _)) (by first | exact pr | exact pr.new ((New.refl _).alloc _))).mono ?_; rintro e wx hxx; obtain ⟨g, a, rfl, hgg, hl, hs, h3⟩ := hxx.opened hn; (try simp at hgg); (try simp only [New.drew_mark, New.alloc_mark] at h3); first | (have hM := And.right h3; have h3 := And.left h3; have dV := Blk.laid hM; have cV := dV.cells; have fV := dV.frees; have lV := dV.lt; have dL := dN.size; have neA := ne5a' dL sz15; have neB := ne5b' dL sz15; have neT := ne5c dL sz15; have dA := dA.new h3; have dB := dB.new h3; have dT := dT.new h3; have dN := dN.trans h3; have dS := dN.size; have neG := neg5' hgg) | ((try have neG := neg5 lV hgg); have dA := dA.new h3; have dB := dB.new h3; have dT := dT.new h3; have dN := dN.trans h3; have dS := dN.size; (try (have dV := dV.new h3; have cV := dV.cells; have fV := dV.frees; have lV := dV.lt)))))
    all_goals
      go_wp2_with fail
      go_meet
      case rel =>
        first
        | (have hq := dV
           refine ⟨_, g, a, rfl, blk10 _ _ _ _ _ _ _ _ _ _ hq, ?_, dL, ?_, neG, ?_, ?_, ?_⟩
           · simp (disch := exact neG) only [SayAt.set5]; exact hs
           · omega
           · simp [World.setCell]; exact lV
           · simp [World.setCell]; exact hl
           · simp (disch := exact dL) only [New.set5]; exact dN)
        | (refine ⟨_, g, a, rfl, Blk.mk _ _ _ _ rfl, hs.new ((New.refl _).alloc _), dS, ?_, ?_, ?_, ?_, dN.alloc _⟩
           · omega
           · omega
           · simp
           · simp; omega)
  case rest =>
  obtain ⟨B17, g17, a17, rfl, bY17, sY17, lB17, lg17, ne17, ltB17, ltg17, hc17⟩ := hcut
  generalize wc = w17 at *
  have bW17 := bW15.new hc17
  have sW17 := sW15.new hc17
  have bG17 := bG15.new hc17
  have hm17 := hm15.new hc17
  have N17 := N15.trans hc17
  clear bA15 bB15 bM15 bW15 sW15 bG15 hm15 N15 hc17
  have cW := bW17.cells
  have cH := bY17.cells
  go_wp2_with fail
  refine (eqSR ⟨c, rt, rp, rh, ri, rs5, say, up, dn, ud⟩ g17 g4 _ _ _ sY17 sW17).mono ?_
  rintro e w18 ⟨rfl, hn18⟩
  have bG18 := bG17.new hn18
  have hm18 := hm17.new hn18
  have N18 := N17.trans hn18
  clear cW cH
  have cG := bG18.cells
  go_wp2_with fail
  refine (hdSR ⟨c, rt, rp, rh, ri, rs5, say, up, dn, ud⟩ g8 _ _ hm18).mono ?_
  rintro e w19 ⟨rfl, hn19⟩
  rw [show mkC5 (Rs.say ⟨c, rt, rp, rh, ri, rs5, say, up, dn, ud⟩) = N from hN.out]
  go_wp2
  go_ret
  exact ⟨rfl, N18.trans hn19⟩

set_option maxRecDepth 100000 in
theorem ahs_lifted (os : Os) (started : os.Started) (H : Type) (enc : TypeId × Value → H) :
    ReturnsInHanded {} Try.checked os 3 .any (Rows.fnExactHearSessionSpec.pre6 enc Try.prog Try.f3 Rows.fnExactHearSessionRow.domain false) (Rows.fnExactHearSessionSpec.post enc Try.prog Try.f3 false true false false) := by
  refine returnsInHanded_of_change (C := Try.checked) own started (by kernel_rfl) Try.func3
    (ChangeSpec.witness6 (enc := enc) (C := Try.checked) false ⟨#[], #[.agg #[.int .i64 0, .int .i64 0, .int .i64 0], .agg #[.int .i64 0, .int .i64 0, .int .i64 0, .int .i64 0, .int .i64 0], .agg #[.int .i64 0, .int .i64 0, .int .i64 0, .int .i64 0, .int .i64 0, .int .i64 0, .slice none 0 0, .bool false, .int .i64 0, .slice none 0 0, .int .i64 0, .int .i64 0, .int .i64 0, .slice none 0 0]], []⟩ 8 (by kernel_rfl) (by kernel_rfl) (by kernel_rfl) (by kernel_rfl)) ?_
  intro W base args ds gs before hval0 hW hcnd _
  have hval : ∀ (j : Nat) t v, Try.f3.params[j]? = some t → args[j]? = some v → Value.okWide Try.prog W .any base t v := hval0
  have hW' := hW
  obtain ⟨p, q, hA0, hV, rfl, hfz, hnd⟩ := hW
  have hA : DataW.TrodAll enc Try.prog W 0 (fun _ => true) true Try.f3.params.toList args.toList ds p := hA0
  rw [Try.params3] at hA hval
  obtain ⟨v0, vs0, d0, ds0, p0, q0, hargs, rfl, rfl, h0, r0⟩ := trodAll_cons hA
  obtain ⟨v1, vs1, d1, ds1, p1, q1, rfl, rfl, rfl, h1, r1⟩ := trodAll_cons r0
  obtain ⟨v2, vs2, d2, ds2, p2, q2, rfl, rfl, rfl, h2, r2⟩ := trodAll_cons r1
  obtain ⟨rfl, rfl, rfl⟩ := trodAll_nil r2
  obtain rfl : args = #[v0, v1, v2] := by cases args; simp_all
  obtain ⟨rfl, rfl⟩ := trodVars_none hV
  have k0 := h0
  have lt0 : ∀ x ∈ p0, x.block < W.heap.size := by obtain ⟨m, hm⟩ := k0; exact DataW.trod_lt m _ _ _ hm
  obtain ⟨ca0, ci0, ch0, rfl, xa0, xi0, xh0⟩ := open_config (hval 0 23 v0 rfl rfl) h0
  have k1 := h1
  have lt1 : ∀ x ∈ p1, x.block < W.heap.size := by obtain ⟨m, hm⟩ := k1; exact DataW.trod_lt m _ _ _ hm
  obtain ⟨st1, pe1, sh1, sn1, sp1, rfl, wt1, wp1, wh1, wn1, ws1⟩ := open_session (hval 1 25 v1 rfl rfl) h1
  have k2 := h2
  have lt2 : ∀ x ∈ p2, x.block < W.heap.size := by obtain ⟨m, hm⟩ := k2; exact DataW.trod_lt m _ _ _ hm
  obtain ⟨kd2, sa2, ho2, si2, wh2, su2, ga2, gn2, gc2, gs2, has2, o2, nx2, md2, lc2, a2, n2, c2, x2, ra2, rn2, rc2, rs2, rfl, ⟨bg2, eg2, mg2⟩, ⟨bx2, ex2, mx2⟩, ⟨br2, er2, mr2⟩, im2⟩ := open_message (hval 2 33 v2 rfl rfl) h2
  clear hA0 hval0
  refine (ahs_walk ca0 ci0 ch0 st1 pe1 sh1 sn1 sp1 kd2 sa2 ho2 si2 wh2 su2 ga2 a2 ra2 gn2 gc2 n2 c2 rn2 rc2 has2 o2 nx2 md2 lc2 gs2 rs2 x2 W bg2 bx2 br2 eg2 ex2 er2 mg2 mx2 mr2).mono fun e W' ⟨he, new⟩ => ?_
  have bel := new.below
  subst he
  exact ⟨_, rfl, _, _, _, [], _, [], hW', trodAll_mk1 (shut_bool Try.underlying4 _), (trodAll_cons_mk (Below.trod laidOut (by kernel_rfl) (of_decide_eq_true (by kernel_rfl)) k0 bel lt0) (trodAll_cons_mk (Below.trod laidOut (by kernel_rfl) (of_decide_eq_true (by kernel_rfl)) k1 bel lt1) (trodAll_cons_mk (Below.trod laidOut (by kernel_rfl) (of_decide_eq_true (by kernel_rfl)) k2 bel lt2) trodAll_mk0))), rfl, bel.frame _, fun h => by cases h⟩

theorem ahs_holds : Rows.FnExactHearSessionSaid :=
  OpenClaim.holds_of_wide 3 Try.f3 rfl rfl rfl rfl rfl rfl rfl ⟨rfl, rfl, rfl, rfl, rfl⟩ rfl rfl rfl rfl rfl (by kernel_rfl) Try.func3 (by kernel_rfl)
    (of_decide_eq_true (by kernel_rfl)) (by unfold Func.isWrapper; first | (rw [if_pos (by decide +kernel)]; kernel_rfl) | (rw [if_neg (by decide +kernel)]; exact ⟨rfl, rfl⟩))
    (fun os started H enc _ => ahs_lifted os started H enc)

end Go.Proofs.Ytenikpamnfnghaa
