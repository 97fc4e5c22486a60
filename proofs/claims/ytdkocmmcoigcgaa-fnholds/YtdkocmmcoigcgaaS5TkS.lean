/- What is proved here: what TickSession answers in the model, for every configuration and session. No condition. -/
import Derived.Test.YtdkocmmcoigcgaaS5Tick
namespace Go.Proofs.Ytdkocmmcoigcgaa
open Go.RowKit
set_option linter.unusedVariables false
set_option linter.unusedSimpArgs false

set_option maxHeartbeats 3200000 in
theorem specTk (st pe ho si sp : Int) (w : World) (hs : SsP st pe ho si sp) : Calls Try.prog 82 #[.agg #[.int .i64 st, .int .i64 pe, .int .i64 ho, .int .i64 si, .int .i64 sp]] w (Ans w (cntR (if st = 0 then sesR st pe ho si sp else if st = 1 then sentR st pe ho (tk si) (tk sp) else openedR st pe ho (tk si) (tk sp)))) := by
  obtain ⟨hst, hpe, hho, hsi, hsp⟩ := hs
  by_cases t0 : st = 0
  case pos =>
    rw [if_pos t0]
    subst t0
    rw [show cntR (sesR 0 pe ho si sp) = sesR 0 pe ho si sp from rfl]
    go_enter Try.func82, Try.ntmps82
    go_wp2
    refine bodyPost_ret (v := .agg (srC 0 0 pe ho si sp (.slice none 0 0) false false false)) (by simp [results, Try.results82, go_sem]) rfl ⟨w.heap.size, _, rfl, Nat.le_refl _, by simp; omega, rfl, ((New.refl w).alloc _).alloc _⟩
  rw [if_neg t0]
  have z0 : (st == 0) = false := by simpa using t0
  have hm1 : Hid (∀ W, Calls Try.prog 139 #[.int .i64 1000, .int .i64 (si + 1)] W fun e w' => e = .returned (.int .i64 (tk si)) ∧ w' = W) := fun W => by rw [← tk_min' si]; exact min5 1000 (si + 1) W
  have hm2 : Hid (∀ W, Calls Try.prog 139 #[.int .i64 1000, .int .i64 (sp + 1)] W fun e w' => e = .returned (.int .i64 (tk sp)) ∧ w' = W) := fun W => by rw [← tk_min' sp]; exact min5 1000 (sp + 1) W
  generalize tk si = x at *
  generalize tk sp = y at *
  by_cases t1 : st = 1
  case pos =>
    rw [if_pos t1]
    subst t1
    by_cases u0 : x = 50
    case pos =>
      rw [show cntR (sentR 1 pe ho x y) = failR 1 4 0 from by unfold sentR; rw [if_pos u0]; rfl]
      subst u0
      go_enter Try.func82, Try.ntmps82
      go_wp2_with fail
      refine (hm1.out _).mono ?_
      rintro e w1 ⟨rfl, rfl⟩
      go_wp2_with fail
      refine (hm2.out _).mono ?_
      rintro e w1 ⟨rfl, rfl⟩
      have bR0 : Blk ((w.alloc (.cells #[.int .i64 1, .int .i64 pe, .int .i64 ho, .int .i64 50, .int .i64 y] 27)).alloc (.cells #[.int .i64 0, .int .i64 0, .int .i64 0, .int .i64 0, .int .i64 0, .int .i64 0, .slice none 0 0, .bool false, .bool false, .bool false] 40)) (w.heap.size + 1) 40 #[.int .i64 0, .int .i64 0, .int .i64 0, .int .i64 0, .int .i64 0, .int .i64 0, .slice none 0 0, .bool false, .bool false, .bool false] := Blk.mk _ _ _ _ (by simp)
      have N0 : New w ((w.alloc (.cells #[.int .i64 1, .int .i64 pe, .int .i64 ho, .int .i64 50, .int .i64 y] 27)).alloc (.cells #[.int .i64 0, .int .i64 0, .int .i64 0, .int .i64 0, .int .i64 0, .int .i64 0, .slice none 0 0, .bool false, .bool false, .bool false] 40)) := ((New.refl w).alloc _).alloc _
      go_wp2_with fail
      refine (specFail 1 pe ho 50 y 4 0 _ t0).mono ?_
      rintro e w3 ⟨g, v, rfl, hg, hl, hs, hn3⟩
      obtain ⟨hv, hb⟩ := hs
      subst hv
      simp at hg
      have ne : ¬ w.heap.size + 1 = g := by omega
      have hg0 : w.heap.size ≤ g := by omega
      have ge2 : w.heap.size ≤ w.heap.size + 1 := Nat.le_succ _
      dsimp only [srC]
      have bR3 := bR0.new hn3
      have N3 := N0.trans hn3
      have cR := bR3.cells
      have fR := bR3.frees
      have lR := bR3.lt
      clear bR0 N0 hn3 hg
      go_wp2
      refine bodyPost_ret (v := .agg (srC 0 0 0 0 0 0 (.slice (some ⟨g, 0, none⟩) 1 1) false (1 == 3) false)) (by simp [results, Try.results82, go_sem, cR]) rfl ⟨g, _, rfl, hg0, by simp [World.setCell]; omega, ⟨rfl, ?_⟩, ?_⟩
      · simp (disch := exact ne) only [Blk.set5]; exact hb
      simp (disch := exact ge2) only [New.set5, N3]
    rw [show cntR (sentR 1 pe ho x y) = sesR 1 pe ho x y from by unfold sentR; rw [if_neg u0]; rfl]
    have z1 : (x == 50) = false := by simpa using u0
    go_enter Try.func82, Try.ntmps82
    go_wp2_with fail
    refine (hm1.out _).mono ?_
    rintro e w1 ⟨rfl, rfl⟩
    go_wp2_with fail
    refine (hm2.out _).mono ?_
    rintro e w1 ⟨rfl, rfl⟩
    go_wp2
    refine bodyPost_ret (v := .agg (srC 0 1 pe ho x y (.slice none 0 0) false false false)) (by simp [results, Try.results82, go_sem]) rfl ⟨w.heap.size, _, rfl, Nat.le_refl _, by simp; omega, rfl, ((New.refl w).alloc _).alloc _⟩
  rw [if_neg t1]
  have z1 : (st == 1) = false := by simpa using t1
  by_cases u0 : ho = 0
  case pos =>
    subst u0
    rw [show cntR (openedR st pe 0 x y) = sesR st pe 0 x y from by unfold openedR; rw [if_pos rfl]; rfl]
    clear hho
    go_enter Try.func82, Try.ntmps82
    go_wp2_with fail
    refine (hm1.out _).mono ?_
    rintro e w1 ⟨rfl, rfl⟩
    go_wp2_with fail
    refine (hm2.out _).mono ?_
    rintro e w1 ⟨rfl, rfl⟩
    go_wp2
    refine bodyPost_ret (v := .agg (srC 0 st pe 0 x y (.slice none 0 0) false false false)) (by simp [results, Try.results82, go_sem]) rfl ⟨w.heap.size, _, rfl, Nat.le_refl _, by simp; omega, rfl, ((New.refl w).alloc _).alloc _⟩
  have hp : 0 < ho := by rcases hho with h | h <;> omega
  clear hho
  by_cases u1 : ho ≤ x
  case pos =>
    rw [show cntR (openedR st pe ho x y) = failR st 4 0 from by unfold openedR; rw [if_neg u0, if_pos u1]; rfl]
    go_enter Try.func82, Try.ntmps82
    go_wp2_with fail
    refine (hm1.out _).mono ?_
    rintro e w1 ⟨rfl, rfl⟩
    go_wp2_with fail
    refine (hm2.out _).mono ?_
    rintro e w1 ⟨rfl, rfl⟩
    have bR0 : Blk ((w.alloc (.cells #[.int .i64 st, .int .i64 pe, .int .i64 ho, .int .i64 x, .int .i64 y] 27)).alloc (.cells #[.int .i64 0, .int .i64 0, .int .i64 0, .int .i64 0, .int .i64 0, .int .i64 0, .slice none 0 0, .bool false, .bool false, .bool false] 40)) (w.heap.size + 1) 40 #[.int .i64 0, .int .i64 0, .int .i64 0, .int .i64 0, .int .i64 0, .int .i64 0, .slice none 0 0, .bool false, .bool false, .bool false] := Blk.mk _ _ _ _ (by simp)
    have N0 : New w ((w.alloc (.cells #[.int .i64 st, .int .i64 pe, .int .i64 ho, .int .i64 x, .int .i64 y] 27)).alloc (.cells #[.int .i64 0, .int .i64 0, .int .i64 0, .int .i64 0, .int .i64 0, .int .i64 0, .slice none 0 0, .bool false, .bool false, .bool false] 40)) := ((New.refl w).alloc _).alloc _
    go_wp2_with fail
    refine (specFail st pe ho x y 4 0 _ t0).mono ?_
    rintro e w3 ⟨g, v, rfl, hg, hl, hs, hn3⟩
    obtain ⟨hv, hb⟩ := hs
    subst hv
    simp at hg
    have ne : ¬ w.heap.size + 1 = g := by omega
    have hg0 : w.heap.size ≤ g := by omega
    have ge2 : w.heap.size ≤ w.heap.size + 1 := Nat.le_succ _
    dsimp only [srC]
    have bR3 := bR0.new hn3
    have N3 := N0.trans hn3
    have cR := bR3.cells
    have fR := bR3.frees
    have lR := bR3.lt
    clear bR0 N0 hn3 hg
    go_wp2
    refine bodyPost_ret (v := .agg (srC 0 0 0 0 0 0 (.slice (some ⟨g, 0, none⟩) 1 1) false (st == 3) false)) (by simp [results, Try.results82, go_sem, cR]) rfl ⟨g, _, rfl, hg0, by simp [World.setCell]; omega, ⟨rfl, ?_⟩, ?_⟩
    · simp (disch := exact ne) only [Blk.set5]; exact hb
    simp (disch := exact ge2) only [New.set5, N3]
  by_cases u6 : ho < 6
  case pos =>
    by_cases u2 : 1 ≤ y
    case pos =>
      rw [show cntR (openedR st pe ho x y) = keepR st pe ho x 0 from by unfold openedR; rw [if_neg u0, if_neg u1, if_pos u6, if_pos u2]; rfl]
      go_enter Try.func82, Try.ntmps82
      go_wp2_with fail
      refine (hm1.out _).mono ?_
      rintro e w1 ⟨rfl, rfl⟩
      go_wp2_with fail
      refine (hm2.out _).mono ?_
      rintro e w1 ⟨rfl, rfl⟩
      go_wp2
      refine bodyPost_ret (v := .agg (srC 0 st pe ho x 0 (.slice (some ⟨w.heap.size + 1 + 1, 0, none⟩) 1 1) false false false)) (by simp [results, Try.results82, go_sem]) rfl ⟨w.heap.size + 1 + 1, _, rfl, by omega, by simp, ⟨rfl, Blk.mk _ _ _ _ (by simp)⟩, (((New.refl w).alloc _).alloc _).alloc _⟩
    rw [show cntR (openedR st pe ho x y) = sesR st pe ho x y from by unfold openedR; rw [if_neg u0, if_neg u1, if_pos u6, if_neg u2]; rfl]
    go_enter Try.func82, Try.ntmps82
    go_wp2_with fail
    refine (hm1.out _).mono ?_
    rintro e w1 ⟨rfl, rfl⟩
    go_wp2_with fail
    refine (hm2.out _).mono ?_
    rintro e w1 ⟨rfl, rfl⟩
    go_wp2
    refine bodyPost_ret (v := .agg (srC 0 st pe ho x y (.slice none 0 0) false false false)) (by simp [results, Try.results82, go_sem]) rfl ⟨w.heap.size, _, rfl, Nat.le_refl _, by simp; omega, rfl, ((New.refl w).alloc _).alloc _⟩
  by_cases u2 : 3 ≤ y
  case pos =>
    rw [show cntR (openedR st pe ho x y) = keepR st pe ho x 0 from by unfold openedR; rw [if_neg u0, if_neg u1, if_neg u6, if_pos u2]; rfl]
    go_enter Try.func82, Try.ntmps82
    go_wp2_with fail
    refine (hm1.out _).mono ?_
    rintro e w1 ⟨rfl, rfl⟩
    go_wp2_with fail
    refine (hm2.out _).mono ?_
    rintro e w1 ⟨rfl, rfl⟩
    go_wp2
    refine bodyPost_ret (v := .agg (srC 0 st pe ho x 0 (.slice (some ⟨w.heap.size + 1 + 1, 0, none⟩) 1 1) false false false)) (by simp [results, Try.results82, go_sem]) rfl ⟨w.heap.size + 1 + 1, _, rfl, by omega, by simp, ⟨rfl, Blk.mk _ _ _ _ (by simp)⟩, (((New.refl w).alloc _).alloc _).alloc _⟩
  rw [show cntR (openedR st pe ho x y) = sesR st pe ho x y from by unfold openedR; rw [if_neg u0, if_neg u1, if_neg u6, if_neg u2]; rfl]
  go_enter Try.func82, Try.ntmps82
  go_wp2_with fail
  refine (hm1.out _).mono ?_
  rintro e w1 ⟨rfl, rfl⟩
  go_wp2_with fail
  refine (hm2.out _).mono ?_
  rintro e w1 ⟨rfl, rfl⟩
  go_wp2
  refine bodyPost_ret (v := .agg (srC 0 st pe ho x y (.slice none 0 0) false false false)) (by simp [results, Try.results82, go_sem]) rfl ⟨w.heap.size, _, rfl, Nat.le_refl _, by simp; omega, rfl, ((New.refl w).alloc _).alloc _⟩

set_option maxHeartbeats 1600000 in
theorem specTick (ca ci ch st pe ho si sp  : Int) (w : World) : Calls Try.prog 24 #[.agg #[.int .i64 ca, .int .i64 ci, .int .i64 ch], .agg #[.int .i64 st, .int .i64 pe, .int .i64 ho, .int .i64 si, .int .i64 sp]] w (Ans w (ticksR ca ci ch st pe ho si sp)) := by
  have N0 : New w (((w.alloc (.cells #[.int .i64 ca, .int .i64 ci, .int .i64 ch] 25)).alloc (.cells #[.int .i64 st, .int .i64 pe, .int .i64 ho, .int .i64 si, .int .i64 sp] 27)).alloc (.cells #[.int .i64 0, .int .i64 0, .int .i64 0, .int .i64 0, .int .i64 0, .int .i64 0, .slice none 0 0, .bool false, .bool false, .bool false] 40)) := (((New.refl w).alloc _).alloc _).alloc _
  have bC0 : Blk (((w.alloc (.cells #[.int .i64 ca, .int .i64 ci, .int .i64 ch] 25)).alloc (.cells #[.int .i64 st, .int .i64 pe, .int .i64 ho, .int .i64 si, .int .i64 sp] 27)).alloc (.cells #[.int .i64 0, .int .i64 0, .int .i64 0, .int .i64 0, .int .i64 0, .int .i64 0, .slice none 0 0, .bool false, .bool false, .bool false] 40)) w.heap.size 25 #[.int .i64 ca, .int .i64 ci, .int .i64 ch] := ((Blk.mk _ _ _ _ rfl).alloc _).alloc _
  have bS0 : Blk (((w.alloc (.cells #[.int .i64 ca, .int .i64 ci, .int .i64 ch] 25)).alloc (.cells #[.int .i64 st, .int .i64 pe, .int .i64 ho, .int .i64 si, .int .i64 sp] 27)).alloc (.cells #[.int .i64 0, .int .i64 0, .int .i64 0, .int .i64 0, .int .i64 0, .int .i64 0, .slice none 0 0, .bool false, .bool false, .bool false] 40)) (w.heap.size + 1) 27 #[.int .i64 st, .int .i64 pe, .int .i64 ho, .int .i64 si, .int .i64 sp] := (Blk.mk _ _ _ _ (by simp)).alloc _
  have bR0 : Blk (((w.alloc (.cells #[.int .i64 ca, .int .i64 ci, .int .i64 ch] 25)).alloc (.cells #[.int .i64 st, .int .i64 pe, .int .i64 ho, .int .i64 si, .int .i64 sp] 27)).alloc (.cells #[.int .i64 0, .int .i64 0, .int .i64 0, .int .i64 0, .int .i64 0, .int .i64 0, .slice none 0 0, .bool false, .bool false, .bool false] 40)) (w.heap.size + 1 + 1) 40 #[.int .i64 0, .int .i64 0, .int .i64 0, .int .i64 0, .int .i64 0, .int .i64 0, .slice none 0 0, .bool false, .bool false, .bool false] := Blk.mk _ _ _ _ (by simp)
  have ge2 : w.heap.size ≤ w.heap.size + 1 + 1 := by omega
  by_cases h0 : ask ca ci ch st pe ho si sp = 0
  case neg =>
    have hx : ticksR ca ci ch st pe ho si sp = badR (ask ca ci ch st pe ho si sp) := if_neg h0
    rw [hx]
    clear hx
    have h1 : (ask ca ci ch st pe ho si sp != 0) = true := by simpa using h0
    go_enter Try.func24, Try.ntmps24
    go_wp2_with fail
    refine (specAsk ca ci ch st pe ho si sp _).mono ?_
    rintro e w1 ⟨rfl, hn1⟩
    have bC1 := bC0.new hn1
    have bS1 := bS0.new hn1
    have bR1 := bR0.new hn1
    have N1 := N0.trans hn1
    have cC := bC1.cells
    have cS := bS1.cells
    have cR := bR1.cells
    have fR := bR1.frees
    have lR := bR1.lt
    have l1 : w.heap.size < w1.heap.size := by omega
    have l2 : w.heap.size + 1 < w1.heap.size := by omega
    clear bC0 bS0 bR0 N0 hn1
    generalize ask ca ci ch st pe ho si sp = k at *
    go_wp2_with fail
    refine (specBad k _ ).mono ?_
    rintro e w2 ⟨g, v, rfl, hg, hl, hs, hn2⟩
    have hv : v = .slice none 0 0 := hs
    subst hv
    dsimp only [srC]
    clear cC cS cR fR lR l1 l2
    have bC2 := bC1.new hn2
    have bS2 := bS1.new hn2
    have bR2 := bR1.new hn2
    have N2 := N1.trans hn2
    have cC := bC2.cells
    have cS := bS2.cells
    have cR := bR2.cells
    have fR := bR2.frees
    have lR := bR2.lt
    have l1 : w.heap.size < w2.heap.size := by omega
    have l2 : w.heap.size + 1 < w2.heap.size := by omega
    clear bC1 bS1 bR1 N1 hn2
    go_wp2
    refine bodyPost_ret (v := .agg (srC k 0 0 0 0 0 (.slice none 0 0) false false false)) (by simp [results, Try.results24, go_sem, cR]) rfl ⟨w.heap.size, _, rfl, Nat.le_refl _, by simp [World.setCell]; omega, rfl, ?_⟩
    simp (disch := exact ge2) only [New.set5, N2]
  have hs := ask_ok h0
  have hx : ticksR ca ci ch st pe ho si sp = cntR (if st = 0 then sesR st pe ho si sp else if st = 1 then sentR st pe ho (tk si) (tk sp) else openedR st pe ho (tk si) (tk sp)) := if_pos h0
  rw [hx]
  clear hx
  have hT : Hid (∀ W, Calls Try.prog 82 #[.agg #[.int .i64 st, .int .i64 pe, .int .i64 ho, .int .i64 si, .int .i64 sp]] W (Ans W (cntR (if st = 0 then sesR st pe ho si sp else if st = 1 then sentR st pe ho (tk si) (tk sp) else openedR st pe ho (tk si) (tk sp))))) := fun W => specTk st pe ho si sp W hs
  generalize cntR (if st = 0 then sesR st pe ho si sp else if st = 1 then sentR st pe ho (tk si) (tk sp) else openedR st pe ho (tk si) (tk sp)) = r at *
  clear hs
  go_enter Try.func24, Try.ntmps24
  go_wp2_with fail
  refine (specAsk ca ci ch st pe ho si sp _).mono ?_
  rintro e w1 ⟨rfl, hn1⟩
  have bC1 := bC0.new hn1
  have bS1 := bS0.new hn1
  have bR1 := bR0.new hn1
  have N1 := N0.trans hn1
  have cC := bC1.cells
  have cS := bS1.cells
  have cR := bR1.cells
  have fR := bR1.frees
  have lR := bR1.lt
  have l1 : w.heap.size < w1.heap.size := by omega
  have l2 : w.heap.size + 1 < w1.heap.size := by omega
  clear bC0 bS0 bR0 N0 hn1
  rw [h0]
  clear h0
  go_wp2_with fail
  refine (hT.out _).mono ?_
  rintro e w2 ⟨g, v, rfl, hg, hl, hs, hn2⟩
  obtain ⟨a, hv⟩ := hs.form
  obtain ⟨c, rt, rp, rh, ri, rs, say, up, dn, ud⟩ := r
  dsimp only [srC] at *
  generalize sayN say = n at *
  subst hv
  have ne : ¬ w.heap.size + 1 + 1 = g := by omega
  have hg0 : w.heap.size ≤ g := by omega
  clear hg
  clear cC cS cR fR lR l1 l2
  have bC2 := bC1.new hn2
  have bS2 := bS1.new hn2
  have bR2 := bR1.new hn2
  have N2 := N1.trans hn2
  have cC := bC2.cells
  have cS := bS2.cells
  have cR := bR2.cells
  have fR := bR2.frees
  have lR := bR2.lt
  have l1 : w.heap.size < w2.heap.size := by omega
  have l2 : w.heap.size + 1 < w2.heap.size := by omega
  clear bC1 bS1 bR1 N1 hn2
  go_wp2
  refine bodyPost_ret (v := .agg (srC c rt rp rh ri rs (.slice a n n) up dn ud)) (by simp [results, Try.results24, go_sem, cR]) rfl ⟨g, _, rfl, hg0, by simp [World.setCell]; omega, ?_, ?_⟩
  · simp (disch := exact ne) only [SayAt.set5]; exact hs
  simp (disch := exact ge2) only [New.set5, N2]

end Go.Proofs.Ytdkocmmcoigcgaa
