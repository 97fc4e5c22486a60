/- What is proved here: what HearSession answers, in the model, for every configuration, session and message whose lists have at most 1048576 elements. -/
import Derived.Test.YteniieagcehmpaaS5Hear
namespace Go.Proofs.Yteniieagcehmpaa
open Go.RowKit Go.Sort
set_option linter.unusedVariables false
set_option linter.unusedSimpArgs false

set_option maxHeartbeats 1600000 in
theorem specOpen1 (ca ci ch st pe ho si sp kd sa mh mi wh su : Int) (ga pa ra : Option Addr) (gn gc pn pc rn rc : Nat) (has : Bool) (mo nx md lc : Int) (w : World) : Calls Try.prog 50 #[.agg #[.int .i64 ca, .int .i64 ci, .int .i64 ch], .agg #[.int .i64 1, .int .i64 pe, .int .i64 ho, .int .i64 0, .int .i64 sp], .agg #[.int .i64 kd, .int .i64 sa, .int .i64 mh, .int .i64 mi, .int .i64 wh, .int .i64 su, .slice ga gn gc, .bool has, .int .i64 mo, .slice pa pn pc, .int .i64 nx, .int .i64 md, .int .i64 lc, .slice ra rn rc]] w (Ans w (⟨0, 2, sa, min ch mh, 0, 0, some (4, 0, 0, 0, 0, 0), false, false, false⟩)) := by
  have hm : Hid (∀ W, Calls Try.prog 74 #[.int .i64 ch, .int .i64 mh] W fun e w' => e = .returned (.int .i64 (min ch mh)) ∧ w' = W) := fun W => min5 ch mh W
  generalize min ch mh = q at *
  go_enter Try.func50, Try.ntmps50
  go_wp2_with fail
  refine (hm.out _).mono ?_
  rintro e w1 ⟨rfl, rfl⟩
  go_wp2
  refine bodyPost_ret (v := .agg (srC 0 2 sa q 0 0 (.slice (some ⟨w.heap.size + 1 + 1 + 1 + 1, 0, none⟩) 1 1) false false false)) (by simp [results, Try.results50, go_sem]) rfl ⟨w.heap.size + 1 + 1 + 1 + 1, _, rfl, by omega, by simp, ⟨rfl, Blk.mk _ _ _ _ (by simp)⟩, (((((New.refl w).alloc _).alloc _).alloc _).alloc _).alloc _⟩

set_option maxHeartbeats 1600000 in
theorem specOpenN (ca ci ch st pe ho si sp kd sa mh mi wh su : Int) (ga pa ra : Option Addr) (gn gc pn pc rn rc : Nat) (has : Bool) (mo nx md lc : Int) (w : World) (h0 : ¬ st = 0) (h1 : ¬ st = 1) : Calls Try.prog 50 #[.agg #[.int .i64 ca, .int .i64 ci, .int .i64 ch], .agg #[.int .i64 st, .int .i64 pe, .int .i64 ho, .int .i64 0, .int .i64 sp], .agg #[.int .i64 kd, .int .i64 sa, .int .i64 mh, .int .i64 mi, .int .i64 wh, .int .i64 su, .slice ga gn gc, .bool has, .int .i64 mo, .slice pa pn pc, .int .i64 nx, .int .i64 md, .int .i64 lc, .slice ra rn rc]] w (Ans w (failR st 6 7)) := by
  have z1 : (st != 1) = true := by simpa using h1
  have bR0 : Blk ((((w.alloc (.cells #[.int .i64 ca, .int .i64 ci, .int .i64 ch] 25)).alloc (.cells #[.int .i64 st, .int .i64 pe, .int .i64 ho, .int .i64 0, .int .i64 sp] 27)).alloc (.cells #[.int .i64 kd, .int .i64 sa, .int .i64 mh, .int .i64 mi, .int .i64 wh, .int .i64 su, .slice ga gn gc, .bool has, .int .i64 mo, .slice pa pn pc, .int .i64 nx, .int .i64 md, .int .i64 lc, .slice ra rn rc] 35)).alloc (.cells #[.int .i64 0, .int .i64 0, .int .i64 0, .int .i64 0, .int .i64 0, .int .i64 0, .slice none 0 0, .bool false, .bool false, .bool false] 40)) (w.heap.size + 1 + 1 + 1) 40 #[.int .i64 0, .int .i64 0, .int .i64 0, .int .i64 0, .int .i64 0, .int .i64 0, .slice none 0 0, .bool false, .bool false, .bool false] := Blk.mk _ _ _ _ (by simp)
  have N0 : New w ((((w.alloc (.cells #[.int .i64 ca, .int .i64 ci, .int .i64 ch] 25)).alloc (.cells #[.int .i64 st, .int .i64 pe, .int .i64 ho, .int .i64 0, .int .i64 sp] 27)).alloc (.cells #[.int .i64 kd, .int .i64 sa, .int .i64 mh, .int .i64 mi, .int .i64 wh, .int .i64 su, .slice ga gn gc, .bool has, .int .i64 mo, .slice pa pn pc, .int .i64 nx, .int .i64 md, .int .i64 lc, .slice ra rn rc] 35)).alloc (.cells #[.int .i64 0, .int .i64 0, .int .i64 0, .int .i64 0, .int .i64 0, .int .i64 0, .slice none 0 0, .bool false, .bool false, .bool false] 40)) := ((((New.refl w).alloc _).alloc _).alloc _).alloc _
  go_enter Try.func50, Try.ntmps50
  go_wp2_with fail
  refine (specFail st pe ho 0 sp 6 7 _ h0).mono ?_
  rintro e w3 ⟨g, v, rfl, hg, hl, hs, hn3⟩
  obtain ⟨hv, hb⟩ := hs
  subst hv
  simp at hg
  have ne : ¬ w.heap.size + 1 + 1 + 1 = g := by omega
  have hg0 : w.heap.size ≤ g := by omega
  have ge2 : w.heap.size ≤ w.heap.size + 1 + 1 + 1 := by omega
  dsimp only [srC]
  have bR3 := bR0.new hn3
  have N3 := N0.trans hn3
  have cR := bR3.cells
  have fR := bR3.frees
  have lR := bR3.lt
  clear bR0 N0 hn3 hg
  go_wp2
  refine bodyPost_ret (v := .agg (srC 0 0 0 0 0 0 (.slice (some ⟨g, 0, none⟩) 1 1) false (st == 3) false)) (by simp [results, Try.results50, go_sem, cR]) rfl ⟨g, _, rfl, hg0, by simp [World.setCell]; omega, ⟨rfl, ?_⟩, ?_⟩
  · simp (disch := exact ne) only [Blk.set5]; exact hb
  simp (disch := exact ge2) only [New.set5, N3]

set_option maxHeartbeats 1600000 in
theorem specHr (ca ci ch st pe ho si sp kd sa mh mi wh su : Int) (ga pa ra : Option Addr) (gn gc pn pc rn rc : Nat) (has : Bool) (mo nx md lc : Int) (w : World) (hst : 0 ≤ st ∧ st ≤ 3) (hk : 1 ≤ kd ∧ kd ≤ 4) (hi : st = 0 → si = 0) : Calls Try.prog 22 #[.agg #[.int .i64 ca, .int .i64 ci, .int .i64 ch], .agg #[.int .i64 st, .int .i64 pe, .int .i64 ho, .int .i64 si, .int .i64 sp], .agg #[.int .i64 kd, .int .i64 sa, .int .i64 mh, .int .i64 mi, .int .i64 wh, .int .i64 su, .slice ga gn gc, .bool has, .int .i64 mo, .slice pa pn pc, .int .i64 nx, .int .i64 md, .int .i64 lc, .slice ra rn rc]] w (Ans w (hears0 st pe ho sp ch kd sa mh)) := by
  rcases (show st = 0 ∨ st = 1 ∨ st = 2 ∨ st = 3 by omega) with rfl | rfl | rfl | rfl
  · obtain rfl := hi rfl
    clear hst hi hk
    rw [show hears0 0 pe ho sp ch kd sa mh = sesR 0 pe ho 0 sp from rfl]
    go_enter Try.func22, Try.ntmps22
    go_wp2
    refine bodyPost_ret (v := .agg (srC 0 0 pe ho 0 sp (.slice none 0 0) false false false)) (by simp [results, Try.results22, go_sem]) rfl ⟨w.heap.size, _, rfl, Nat.le_refl _, by simp; omega, rfl, ((((New.refl w).alloc _).alloc _).alloc _).alloc _⟩
  · clear hst hi
    rcases (show kd = 1 ∨ kd = 2 ∨ kd = 3 ∨ kd = 4 by omega) with rfl | rfl | rfl | rfl
    · clear hk
      rw [show hears0 1 pe ho sp ch 1 sa mh = ⟨0, 2, sa, min ch mh, 0, 0, some (4, 0, 0, 0, 0, 0), false, false, false⟩ from rfl]
      have bR0 : Blk ((((w.alloc (.cells #[.int .i64 ca, .int .i64 ci, .int .i64 ch] 25)).alloc (.cells #[.int .i64 1, .int .i64 pe, .int .i64 ho, .int .i64 0, .int .i64 sp] 27)).alloc (.cells #[.int .i64 1, .int .i64 sa, .int .i64 mh, .int .i64 mi, .int .i64 wh, .int .i64 su, .slice ga gn gc, .bool has, .int .i64 mo, .slice pa pn pc, .int .i64 nx, .int .i64 md, .int .i64 lc, .slice ra rn rc] 35)).alloc (.cells #[.int .i64 0, .int .i64 0, .int .i64 0, .int .i64 0, .int .i64 0, .int .i64 0, .slice none 0 0, .bool false, .bool false, .bool false] 40)) (w.heap.size + 1 + 1 + 1) 40 #[.int .i64 0, .int .i64 0, .int .i64 0, .int .i64 0, .int .i64 0, .int .i64 0, .slice none 0 0, .bool false, .bool false, .bool false] := Blk.mk _ _ _ _ (by simp)
      have N0 : New w ((((w.alloc (.cells #[.int .i64 ca, .int .i64 ci, .int .i64 ch] 25)).alloc (.cells #[.int .i64 1, .int .i64 pe, .int .i64 ho, .int .i64 0, .int .i64 sp] 27)).alloc (.cells #[.int .i64 1, .int .i64 sa, .int .i64 mh, .int .i64 mi, .int .i64 wh, .int .i64 su, .slice ga gn gc, .bool has, .int .i64 mo, .slice pa pn pc, .int .i64 nx, .int .i64 md, .int .i64 lc, .slice ra rn rc] 35)).alloc (.cells #[.int .i64 0, .int .i64 0, .int .i64 0, .int .i64 0, .int .i64 0, .int .i64 0, .slice none 0 0, .bool false, .bool false, .bool false] 40)) := ((((New.refl w).alloc _).alloc _).alloc _).alloc _
      go_enter Try.func22, Try.ntmps22
      go_wp2_with fail
      refine (specOpen1 ca ci ch 1 pe ho 0 sp 1 sa mh mi wh su ga pa ra gn gc pn pc rn rc has mo nx md lc _).mono ?_
      rintro e w3 ⟨g, v, rfl, hg, hl, hs, hn3⟩
      obtain ⟨hv, hb⟩ := hs
      subst hv
      simp at hg
      have ne : ¬ w.heap.size + 1 + 1 + 1 = g := by omega
      have hg0 : w.heap.size ≤ g := by omega
      have ge2 : w.heap.size ≤ w.heap.size + 1 + 1 + 1 := by omega
      dsimp only [srC]
      generalize min ch mh = q at *
      have bR3 := bR0.new hn3
      have N3 := N0.trans hn3
      have cR := bR3.cells
      have fR := bR3.frees
      have lR := bR3.lt
      clear bR0 N0 hn3 hg
      go_wp2
      refine bodyPost_ret (v := .agg (srC 0 2 sa q 0 0 (.slice (some ⟨g, 0, none⟩) 1 1) false false false)) (by simp [results, Try.results22, go_sem, cR]) rfl ⟨g, _, rfl, hg0, by simp [World.setCell]; omega, ⟨rfl, ?_⟩, ?_⟩
      · simp (disch := exact ne) only [Blk.set5]; exact hb
      simp (disch := exact ge2) only [New.set5, N3]
    · clear hk
      rw [show hears0 1 pe ho sp ch 2 sa mh = failR 1 5 1 from rfl]
      have bR0 : Blk ((((w.alloc (.cells #[.int .i64 ca, .int .i64 ci, .int .i64 ch] 25)).alloc (.cells #[.int .i64 1, .int .i64 pe, .int .i64 ho, .int .i64 0, .int .i64 sp] 27)).alloc (.cells #[.int .i64 2, .int .i64 sa, .int .i64 mh, .int .i64 mi, .int .i64 wh, .int .i64 su, .slice ga gn gc, .bool has, .int .i64 mo, .slice pa pn pc, .int .i64 nx, .int .i64 md, .int .i64 lc, .slice ra rn rc] 35)).alloc (.cells #[.int .i64 0, .int .i64 0, .int .i64 0, .int .i64 0, .int .i64 0, .int .i64 0, .slice none 0 0, .bool false, .bool false, .bool false] 40)) (w.heap.size + 1 + 1 + 1) 40 #[.int .i64 0, .int .i64 0, .int .i64 0, .int .i64 0, .int .i64 0, .int .i64 0, .slice none 0 0, .bool false, .bool false, .bool false] := Blk.mk _ _ _ _ (by simp)
      have N0 : New w ((((w.alloc (.cells #[.int .i64 ca, .int .i64 ci, .int .i64 ch] 25)).alloc (.cells #[.int .i64 1, .int .i64 pe, .int .i64 ho, .int .i64 0, .int .i64 sp] 27)).alloc (.cells #[.int .i64 2, .int .i64 sa, .int .i64 mh, .int .i64 mi, .int .i64 wh, .int .i64 su, .slice ga gn gc, .bool has, .int .i64 mo, .slice pa pn pc, .int .i64 nx, .int .i64 md, .int .i64 lc, .slice ra rn rc] 35)).alloc (.cells #[.int .i64 0, .int .i64 0, .int .i64 0, .int .i64 0, .int .i64 0, .int .i64 0, .slice none 0 0, .bool false, .bool false, .bool false] 40)) := ((((New.refl w).alloc _).alloc _).alloc _).alloc _
      go_enter Try.func22, Try.ntmps22
      go_wp2_with fail
      refine (specFail 1 pe ho 0 sp 5 1 _ (by decide)).mono ?_
      rintro e w3 ⟨g, v, rfl, hg, hl, hs, hn3⟩
      obtain ⟨hv, hb⟩ := hs
      subst hv
      simp at hg
      have ne : ¬ w.heap.size + 1 + 1 + 1 = g := by omega
      have hg0 : w.heap.size ≤ g := by omega
      have ge2 : w.heap.size ≤ w.heap.size + 1 + 1 + 1 := by omega
      dsimp only [srC]
      have bR3 := bR0.new hn3
      have N3 := N0.trans hn3
      have cR := bR3.cells
      have fR := bR3.frees
      have lR := bR3.lt
      clear bR0 N0 hn3 hg
      go_wp2
      refine bodyPost_ret (v := .agg (srC 0 0 0 0 0 0 (.slice (some ⟨g, 0, none⟩) 1 1) false false false)) (by simp [results, Try.results22, go_sem, cR]) rfl ⟨g, _, rfl, hg0, by simp [World.setCell]; omega, ⟨rfl, ?_⟩, ?_⟩
      · simp (disch := exact ne) only [Blk.set5]; exact hb
      simp (disch := exact ge2) only [New.set5, N3]
    · clear hk
      rw [show hears0 1 pe ho sp ch 3 sa mh = endR 1 from rfl]
      go_enter Try.func22, Try.ntmps22
      go_wp2
      refine bodyPost_ret (v := .agg (srC 0 0 0 0 0 0 (.slice none 0 0) false false false)) (by simp [results, Try.results22, go_sem]) rfl ⟨w.heap.size, _, rfl, Nat.le_refl _, by simp; omega, rfl, ((((New.refl w).alloc _).alloc _).alloc _).alloc _⟩
    · clear hk
      rw [show hears0 1 pe ho sp ch 4 sa mh = failR 1 5 1 from rfl]
      have bR0 : Blk ((((w.alloc (.cells #[.int .i64 ca, .int .i64 ci, .int .i64 ch] 25)).alloc (.cells #[.int .i64 1, .int .i64 pe, .int .i64 ho, .int .i64 0, .int .i64 sp] 27)).alloc (.cells #[.int .i64 4, .int .i64 sa, .int .i64 mh, .int .i64 mi, .int .i64 wh, .int .i64 su, .slice ga gn gc, .bool has, .int .i64 mo, .slice pa pn pc, .int .i64 nx, .int .i64 md, .int .i64 lc, .slice ra rn rc] 35)).alloc (.cells #[.int .i64 0, .int .i64 0, .int .i64 0, .int .i64 0, .int .i64 0, .int .i64 0, .slice none 0 0, .bool false, .bool false, .bool false] 40)) (w.heap.size + 1 + 1 + 1) 40 #[.int .i64 0, .int .i64 0, .int .i64 0, .int .i64 0, .int .i64 0, .int .i64 0, .slice none 0 0, .bool false, .bool false, .bool false] := Blk.mk _ _ _ _ (by simp)
      have N0 : New w ((((w.alloc (.cells #[.int .i64 ca, .int .i64 ci, .int .i64 ch] 25)).alloc (.cells #[.int .i64 1, .int .i64 pe, .int .i64 ho, .int .i64 0, .int .i64 sp] 27)).alloc (.cells #[.int .i64 4, .int .i64 sa, .int .i64 mh, .int .i64 mi, .int .i64 wh, .int .i64 su, .slice ga gn gc, .bool has, .int .i64 mo, .slice pa pn pc, .int .i64 nx, .int .i64 md, .int .i64 lc, .slice ra rn rc] 35)).alloc (.cells #[.int .i64 0, .int .i64 0, .int .i64 0, .int .i64 0, .int .i64 0, .int .i64 0, .slice none 0 0, .bool false, .bool false, .bool false] 40)) := ((((New.refl w).alloc _).alloc _).alloc _).alloc _
      go_enter Try.func22, Try.ntmps22
      go_wp2_with fail
      refine (specFail 1 pe ho 0 sp 5 1 _ (by decide)).mono ?_
      rintro e w3 ⟨g, v, rfl, hg, hl, hs, hn3⟩
      obtain ⟨hv, hb⟩ := hs
      subst hv
      simp at hg
      have ne : ¬ w.heap.size + 1 + 1 + 1 = g := by omega
      have hg0 : w.heap.size ≤ g := by omega
      have ge2 : w.heap.size ≤ w.heap.size + 1 + 1 + 1 := by omega
      dsimp only [srC]
      have bR3 := bR0.new hn3
      have N3 := N0.trans hn3
      have cR := bR3.cells
      have fR := bR3.frees
      have lR := bR3.lt
      clear bR0 N0 hn3 hg
      go_wp2
      refine bodyPost_ret (v := .agg (srC 0 0 0 0 0 0 (.slice (some ⟨g, 0, none⟩) 1 1) false false false)) (by simp [results, Try.results22, go_sem, cR]) rfl ⟨g, _, rfl, hg0, by simp [World.setCell]; omega, ⟨rfl, ?_⟩, ?_⟩
      · simp (disch := exact ne) only [Blk.set5]; exact hb
      simp (disch := exact ge2) only [New.set5, N3]
  · clear hst hi
    rcases (show kd = 1 ∨ kd = 2 ∨ kd = 3 ∨ kd = 4 by omega) with rfl | rfl | rfl | rfl
    · clear hk
      rw [show hears0 2 pe ho sp ch 1 sa mh = failR 2 6 7 from rfl]
      have bR0 : Blk ((((w.alloc (.cells #[.int .i64 ca, .int .i64 ci, .int .i64 ch] 25)).alloc (.cells #[.int .i64 2, .int .i64 pe, .int .i64 ho, .int .i64 0, .int .i64 sp] 27)).alloc (.cells #[.int .i64 1, .int .i64 sa, .int .i64 mh, .int .i64 mi, .int .i64 wh, .int .i64 su, .slice ga gn gc, .bool has, .int .i64 mo, .slice pa pn pc, .int .i64 nx, .int .i64 md, .int .i64 lc, .slice ra rn rc] 35)).alloc (.cells #[.int .i64 0, .int .i64 0, .int .i64 0, .int .i64 0, .int .i64 0, .int .i64 0, .slice none 0 0, .bool false, .bool false, .bool false] 40)) (w.heap.size + 1 + 1 + 1) 40 #[.int .i64 0, .int .i64 0, .int .i64 0, .int .i64 0, .int .i64 0, .int .i64 0, .slice none 0 0, .bool false, .bool false, .bool false] := Blk.mk _ _ _ _ (by simp)
      have N0 : New w ((((w.alloc (.cells #[.int .i64 ca, .int .i64 ci, .int .i64 ch] 25)).alloc (.cells #[.int .i64 2, .int .i64 pe, .int .i64 ho, .int .i64 0, .int .i64 sp] 27)).alloc (.cells #[.int .i64 1, .int .i64 sa, .int .i64 mh, .int .i64 mi, .int .i64 wh, .int .i64 su, .slice ga gn gc, .bool has, .int .i64 mo, .slice pa pn pc, .int .i64 nx, .int .i64 md, .int .i64 lc, .slice ra rn rc] 35)).alloc (.cells #[.int .i64 0, .int .i64 0, .int .i64 0, .int .i64 0, .int .i64 0, .int .i64 0, .slice none 0 0, .bool false, .bool false, .bool false] 40)) := ((((New.refl w).alloc _).alloc _).alloc _).alloc _
      go_enter Try.func22, Try.ntmps22
      go_wp2_with fail
      refine (specOpenN ca ci ch 2 pe ho 0 sp 1 sa mh mi wh su ga pa ra gn gc pn pc rn rc has mo nx md lc _ (by decide) (by decide)).mono ?_
      rintro e w3 ⟨g, v, rfl, hg, hl, hs, hn3⟩
      obtain ⟨hv, hb⟩ := hs
      subst hv
      simp at hg
      have ne : ¬ w.heap.size + 1 + 1 + 1 = g := by omega
      have hg0 : w.heap.size ≤ g := by omega
      have ge2 : w.heap.size ≤ w.heap.size + 1 + 1 + 1 := by omega
      dsimp only [srC]
      have bR3 := bR0.new hn3
      have N3 := N0.trans hn3
      have cR := bR3.cells
      have fR := bR3.frees
      have lR := bR3.lt
      clear bR0 N0 hn3 hg
      go_wp2
      refine bodyPost_ret (v := .agg (srC 0 0 0 0 0 0 (.slice (some ⟨g, 0, none⟩) 1 1) false false false)) (by simp [results, Try.results22, go_sem, cR]) rfl ⟨g, _, rfl, hg0, by simp [World.setCell]; omega, ⟨rfl, ?_⟩, ?_⟩
      · simp (disch := exact ne) only [Blk.set5]; exact hb
      simp (disch := exact ge2) only [New.set5, N3]
    · clear hk
      rw [show hears0 2 pe ho sp ch 2 sa mh = failR 2 5 2 from rfl]
      have bR0 : Blk ((((w.alloc (.cells #[.int .i64 ca, .int .i64 ci, .int .i64 ch] 25)).alloc (.cells #[.int .i64 2, .int .i64 pe, .int .i64 ho, .int .i64 0, .int .i64 sp] 27)).alloc (.cells #[.int .i64 2, .int .i64 sa, .int .i64 mh, .int .i64 mi, .int .i64 wh, .int .i64 su, .slice ga gn gc, .bool has, .int .i64 mo, .slice pa pn pc, .int .i64 nx, .int .i64 md, .int .i64 lc, .slice ra rn rc] 35)).alloc (.cells #[.int .i64 0, .int .i64 0, .int .i64 0, .int .i64 0, .int .i64 0, .int .i64 0, .slice none 0 0, .bool false, .bool false, .bool false] 40)) (w.heap.size + 1 + 1 + 1) 40 #[.int .i64 0, .int .i64 0, .int .i64 0, .int .i64 0, .int .i64 0, .int .i64 0, .slice none 0 0, .bool false, .bool false, .bool false] := Blk.mk _ _ _ _ (by simp)
      have N0 : New w ((((w.alloc (.cells #[.int .i64 ca, .int .i64 ci, .int .i64 ch] 25)).alloc (.cells #[.int .i64 2, .int .i64 pe, .int .i64 ho, .int .i64 0, .int .i64 sp] 27)).alloc (.cells #[.int .i64 2, .int .i64 sa, .int .i64 mh, .int .i64 mi, .int .i64 wh, .int .i64 su, .slice ga gn gc, .bool has, .int .i64 mo, .slice pa pn pc, .int .i64 nx, .int .i64 md, .int .i64 lc, .slice ra rn rc] 35)).alloc (.cells #[.int .i64 0, .int .i64 0, .int .i64 0, .int .i64 0, .int .i64 0, .int .i64 0, .slice none 0 0, .bool false, .bool false, .bool false] 40)) := ((((New.refl w).alloc _).alloc _).alloc _).alloc _
      go_enter Try.func22, Try.ntmps22
      go_wp2_with fail
      refine (specFail 2 pe ho 0 sp 5 2 _ (by decide)).mono ?_
      rintro e w3 ⟨g, v, rfl, hg, hl, hs, hn3⟩
      obtain ⟨hv, hb⟩ := hs
      subst hv
      simp at hg
      have ne : ¬ w.heap.size + 1 + 1 + 1 = g := by omega
      have hg0 : w.heap.size ≤ g := by omega
      have ge2 : w.heap.size ≤ w.heap.size + 1 + 1 + 1 := by omega
      dsimp only [srC]
      have bR3 := bR0.new hn3
      have N3 := N0.trans hn3
      have cR := bR3.cells
      have fR := bR3.frees
      have lR := bR3.lt
      clear bR0 N0 hn3 hg
      go_wp2
      refine bodyPost_ret (v := .agg (srC 0 0 0 0 0 0 (.slice (some ⟨g, 0, none⟩) 1 1) false false false)) (by simp [results, Try.results22, go_sem, cR]) rfl ⟨g, _, rfl, hg0, by simp [World.setCell]; omega, ⟨rfl, ?_⟩, ?_⟩
      · simp (disch := exact ne) only [Blk.set5]; exact hb
      simp (disch := exact ge2) only [New.set5, N3]
    · clear hk
      rw [show hears0 2 pe ho sp ch 3 sa mh = endR 2 from rfl]
      go_enter Try.func22, Try.ntmps22
      go_wp2
      refine bodyPost_ret (v := .agg (srC 0 0 0 0 0 0 (.slice none 0 0) false false false)) (by simp [results, Try.results22, go_sem]) rfl ⟨w.heap.size, _, rfl, Nat.le_refl _, by simp; omega, rfl, ((((New.refl w).alloc _).alloc _).alloc _).alloc _⟩
    · clear hk
      rw [show hears0 2 pe ho sp ch 4 sa mh = ⟨0, 3, pe, ho, 0, sp, none, true, false, false⟩ from rfl]
      go_enter Try.func22, Try.ntmps22
      go_wp2
      refine bodyPost_ret (v := .agg (srC 0 3 pe ho 0 sp (.slice none 0 0) true false false)) (by simp [results, Try.results22, go_sem]) rfl ⟨w.heap.size, _, rfl, Nat.le_refl _, by simp; omega, rfl, ((((New.refl w).alloc _).alloc _).alloc _).alloc _⟩
  · clear hst hi
    rcases (show kd = 1 ∨ kd = 2 ∨ kd = 3 ∨ kd = 4 by omega) with rfl | rfl | rfl | rfl
    · clear hk
      rw [show hears0 3 pe ho sp ch 1 sa mh = failR 3 6 7 from rfl]
      have bR0 : Blk ((((w.alloc (.cells #[.int .i64 ca, .int .i64 ci, .int .i64 ch] 25)).alloc (.cells #[.int .i64 3, .int .i64 pe, .int .i64 ho, .int .i64 0, .int .i64 sp] 27)).alloc (.cells #[.int .i64 1, .int .i64 sa, .int .i64 mh, .int .i64 mi, .int .i64 wh, .int .i64 su, .slice ga gn gc, .bool has, .int .i64 mo, .slice pa pn pc, .int .i64 nx, .int .i64 md, .int .i64 lc, .slice ra rn rc] 35)).alloc (.cells #[.int .i64 0, .int .i64 0, .int .i64 0, .int .i64 0, .int .i64 0, .int .i64 0, .slice none 0 0, .bool false, .bool false, .bool false] 40)) (w.heap.size + 1 + 1 + 1) 40 #[.int .i64 0, .int .i64 0, .int .i64 0, .int .i64 0, .int .i64 0, .int .i64 0, .slice none 0 0, .bool false, .bool false, .bool false] := Blk.mk _ _ _ _ (by simp)
      have N0 : New w ((((w.alloc (.cells #[.int .i64 ca, .int .i64 ci, .int .i64 ch] 25)).alloc (.cells #[.int .i64 3, .int .i64 pe, .int .i64 ho, .int .i64 0, .int .i64 sp] 27)).alloc (.cells #[.int .i64 1, .int .i64 sa, .int .i64 mh, .int .i64 mi, .int .i64 wh, .int .i64 su, .slice ga gn gc, .bool has, .int .i64 mo, .slice pa pn pc, .int .i64 nx, .int .i64 md, .int .i64 lc, .slice ra rn rc] 35)).alloc (.cells #[.int .i64 0, .int .i64 0, .int .i64 0, .int .i64 0, .int .i64 0, .int .i64 0, .slice none 0 0, .bool false, .bool false, .bool false] 40)) := ((((New.refl w).alloc _).alloc _).alloc _).alloc _
      go_enter Try.func22, Try.ntmps22
      go_wp2_with fail
      refine (specOpenN ca ci ch 3 pe ho 0 sp 1 sa mh mi wh su ga pa ra gn gc pn pc rn rc has mo nx md lc _ (by decide) (by decide)).mono ?_
      rintro e w3 ⟨g, v, rfl, hg, hl, hs, hn3⟩
      obtain ⟨hv, hb⟩ := hs
      subst hv
      simp at hg
      have ne : ¬ w.heap.size + 1 + 1 + 1 = g := by omega
      have hg0 : w.heap.size ≤ g := by omega
      have ge2 : w.heap.size ≤ w.heap.size + 1 + 1 + 1 := by omega
      dsimp only [srC]
      have bR3 := bR0.new hn3
      have N3 := N0.trans hn3
      have cR := bR3.cells
      have fR := bR3.frees
      have lR := bR3.lt
      clear bR0 N0 hn3 hg
      go_wp2
      refine bodyPost_ret (v := .agg (srC 0 0 0 0 0 0 (.slice (some ⟨g, 0, none⟩) 1 1) false true false)) (by simp [results, Try.results22, go_sem, cR]) rfl ⟨g, _, rfl, hg0, by simp [World.setCell]; omega, ⟨rfl, ?_⟩, ?_⟩
      · simp (disch := exact ne) only [Blk.set5]; exact hb
      simp (disch := exact ge2) only [New.set5, N3]
    · clear hk
      rw [show hears0 3 pe ho sp ch 2 sa mh = ⟨0, 3, pe, ho, 0, sp, none, false, false, true⟩ from rfl]
      go_enter Try.func22, Try.ntmps22
      go_wp2
      refine bodyPost_ret (v := .agg (srC 0 3 pe ho 0 sp (.slice none 0 0) false false true)) (by simp [results, Try.results22, go_sem]) rfl ⟨w.heap.size, _, rfl, Nat.le_refl _, by simp; omega, rfl, ((((New.refl w).alloc _).alloc _).alloc _).alloc _⟩
    · clear hk
      rw [show hears0 3 pe ho sp ch 3 sa mh = endR 3 from rfl]
      go_enter Try.func22, Try.ntmps22
      go_wp2
      refine bodyPost_ret (v := .agg (srC 0 0 0 0 0 0 (.slice none 0 0) false true false)) (by simp [results, Try.results22, go_sem]) rfl ⟨w.heap.size, _, rfl, Nat.le_refl _, by simp; omega, rfl, ((((New.refl w).alloc _).alloc _).alloc _).alloc _⟩
    · clear hk
      rw [show hears0 3 pe ho sp ch 4 sa mh = ⟨0, 3, pe, ho, 0, sp, none, false, false, false⟩ from rfl]
      go_enter Try.func22, Try.ntmps22
      go_wp2
      refine bodyPost_ret (v := .agg (srC 0 3 pe ho 0 sp (.slice none 0 0) false false false)) (by simp [results, Try.results22, go_sem]) rfl ⟨w.heap.size, _, rfl, Nat.le_refl _, by simp; omega, rfl, ((((New.refl w).alloc _).alloc _).alloc _).alloc _⟩

theorem ask_idle {ca ci ch st pe ho si sp : Int} (h : ask ca ci ch st pe ho si sp = 0) : st = 0 → si = 0 := by
  intro h0
  have hs := ask_ok h
  unfold ask at h
  by_cases hc : cf ca ci ch = 0
  · rw [if_pos hc] at h
    unfold sf at h
    rw [if_pos hs, if_pos h0] at h
    by_cases hz : pe = 0 ∧ ho = 0 ∧ si = 0 ∧ sp = 0
    · exact hz.2.2.1
    · rw [if_neg hz] at h
      cases h
  · rw [if_neg hc] at h
    exact absurd h hc

set_option maxHeartbeats 6400000 in
theorem specHears (ca ci ch st pe ho si sp kd sa mh mi wh su : Int) (ga pa ra : Option Addr) (gn gc pn pc rn rc : Nat) (has : Bool) (mo nx md lc : Int) (gs rs : List (Int × Int)) (xs : List Int) (w : World) (hg : PsAt w ga gs) (hx : NsAt w pa xs) (hr : PsAt w ra rs) (hgn : gs.length = gn) (hpn : xs.length = pn) (hrn : rs.length = rn) (hm1 : gn ≤ 1048576) (hm2 : pn ≤ 1048576) (hm3 : rn ≤ 1048576) : Calls Try.prog 7 #[.agg #[.int .i64 ca, .int .i64 ci, .int .i64 ch], .agg #[.int .i64 st, .int .i64 pe, .int .i64 ho, .int .i64 si, .int .i64 sp], .agg #[.int .i64 kd, .int .i64 sa, .int .i64 mh, .int .i64 mi, .int .i64 wh, .int .i64 su, .slice ga gn gc, .bool has, .int .i64 mo, .slice pa pn pc, .int .i64 nx, .int .i64 md, .int .i64 lc, .slice ra rn rc]] w (Ans w (hearsR ca ci ch st pe ho si sp kd sa mh (mf kd sa mh mi wh su gs has mo xs nx md lc rs))) := by
  have N0 : New w ((((w.alloc (.cells #[.int .i64 ca, .int .i64 ci, .int .i64 ch] 25)).alloc (.cells #[.int .i64 st, .int .i64 pe, .int .i64 ho, .int .i64 si, .int .i64 sp] 27)).alloc (.cells #[.int .i64 kd, .int .i64 sa, .int .i64 mh, .int .i64 mi, .int .i64 wh, .int .i64 su, .slice ga gn gc, .bool has, .int .i64 mo, .slice pa pn pc, .int .i64 nx, .int .i64 md, .int .i64 lc, .slice ra rn rc] 35)).alloc (.cells #[.int .i64 0, .int .i64 0, .int .i64 0, .int .i64 0, .int .i64 0, .int .i64 0, .slice none 0 0, .bool false, .bool false, .bool false] 40)) := ((((New.refl w).alloc _).alloc _).alloc _).alloc _
  have bC0 : Blk ((((w.alloc (.cells #[.int .i64 ca, .int .i64 ci, .int .i64 ch] 25)).alloc (.cells #[.int .i64 st, .int .i64 pe, .int .i64 ho, .int .i64 si, .int .i64 sp] 27)).alloc (.cells #[.int .i64 kd, .int .i64 sa, .int .i64 mh, .int .i64 mi, .int .i64 wh, .int .i64 su, .slice ga gn gc, .bool has, .int .i64 mo, .slice pa pn pc, .int .i64 nx, .int .i64 md, .int .i64 lc, .slice ra rn rc] 35)).alloc (.cells #[.int .i64 0, .int .i64 0, .int .i64 0, .int .i64 0, .int .i64 0, .int .i64 0, .slice none 0 0, .bool false, .bool false, .bool false] 40)) w.heap.size 25 #[.int .i64 ca, .int .i64 ci, .int .i64 ch] := (((Blk.mk _ _ _ _ rfl).alloc _).alloc _).alloc _
  have bS0 : Blk ((((w.alloc (.cells #[.int .i64 ca, .int .i64 ci, .int .i64 ch] 25)).alloc (.cells #[.int .i64 st, .int .i64 pe, .int .i64 ho, .int .i64 si, .int .i64 sp] 27)).alloc (.cells #[.int .i64 kd, .int .i64 sa, .int .i64 mh, .int .i64 mi, .int .i64 wh, .int .i64 su, .slice ga gn gc, .bool has, .int .i64 mo, .slice pa pn pc, .int .i64 nx, .int .i64 md, .int .i64 lc, .slice ra rn rc] 35)).alloc (.cells #[.int .i64 0, .int .i64 0, .int .i64 0, .int .i64 0, .int .i64 0, .int .i64 0, .slice none 0 0, .bool false, .bool false, .bool false] 40)) (w.heap.size + 1) 27 #[.int .i64 st, .int .i64 pe, .int .i64 ho, .int .i64 si, .int .i64 sp] := ((Blk.mk _ _ _ _ (by simp)).alloc _).alloc _
  have bM0 : Blk ((((w.alloc (.cells #[.int .i64 ca, .int .i64 ci, .int .i64 ch] 25)).alloc (.cells #[.int .i64 st, .int .i64 pe, .int .i64 ho, .int .i64 si, .int .i64 sp] 27)).alloc (.cells #[.int .i64 kd, .int .i64 sa, .int .i64 mh, .int .i64 mi, .int .i64 wh, .int .i64 su, .slice ga gn gc, .bool has, .int .i64 mo, .slice pa pn pc, .int .i64 nx, .int .i64 md, .int .i64 lc, .slice ra rn rc] 35)).alloc (.cells #[.int .i64 0, .int .i64 0, .int .i64 0, .int .i64 0, .int .i64 0, .int .i64 0, .slice none 0 0, .bool false, .bool false, .bool false] 40)) (w.heap.size + 1 + 1) 35 #[.int .i64 kd, .int .i64 sa, .int .i64 mh, .int .i64 mi, .int .i64 wh, .int .i64 su, .slice ga gn gc, .bool has, .int .i64 mo, .slice pa pn pc, .int .i64 nx, .int .i64 md, .int .i64 lc, .slice ra rn rc] := (Blk.mk _ _ _ _ (by simp)).alloc _
  have bR0 : Blk ((((w.alloc (.cells #[.int .i64 ca, .int .i64 ci, .int .i64 ch] 25)).alloc (.cells #[.int .i64 st, .int .i64 pe, .int .i64 ho, .int .i64 si, .int .i64 sp] 27)).alloc (.cells #[.int .i64 kd, .int .i64 sa, .int .i64 mh, .int .i64 mi, .int .i64 wh, .int .i64 su, .slice ga gn gc, .bool has, .int .i64 mo, .slice pa pn pc, .int .i64 nx, .int .i64 md, .int .i64 lc, .slice ra rn rc] 35)).alloc (.cells #[.int .i64 0, .int .i64 0, .int .i64 0, .int .i64 0, .int .i64 0, .int .i64 0, .slice none 0 0, .bool false, .bool false, .bool false] 40)) (w.heap.size + 1 + 1 + 1) 40 #[.int .i64 0, .int .i64 0, .int .i64 0, .int .i64 0, .int .i64 0, .int .i64 0, .slice none 0 0, .bool false, .bool false, .bool false] := Blk.mk _ _ _ _ (by simp)
  have ge2 : w.heap.size ≤ w.heap.size + 1 + 1 + 1 := by omega
  by_cases h0 : ask ca ci ch st pe ho si sp = 0
  case neg =>
    rw [show hearsR ca ci ch st pe ho si sp kd sa mh (mf kd sa mh mi wh su gs has mo xs nx md lc rs) = badR (ask ca ci ch st pe ho si sp) from if_neg h0]
    have z1 : (ask ca ci ch st pe ho si sp != 0) = true := by simpa using h0
    go_enter Try.func7, Try.ntmps7
    go_wp2_with fail
    refine (specAsk ca ci ch st pe ho si sp _).mono ?_
    rintro e w1 ⟨rfl, hn1⟩
    have bC1 := bC0.new hn1
    have bS1 := bS0.new hn1
    have bM1 := bM0.new hn1
    have bR1 := bR0.new hn1
    have N1 := N0.trans hn1
    clear bC0 bS0 bM0 bR0 N0
    have cC := bC1.cells
    have cS := bS1.cells
    have cM := bM1.cells
    have cR := bR1.cells
    have fR := bR1.frees
    have lR := bR1.lt
    have fS := bS1.frees
    have lS := bS1.lt
    have l1 : w.heap.size < w1.heap.size := by omega
    have l2 : w.heap.size + 1 + 1 < w1.heap.size := by omega
    clear hn1
    generalize ask ca ci ch st pe ho si sp = k at *
    go_wp2_with fail
    refine (specBad k _).mono ?_
    rintro e w2 ⟨g, v, rfl, hgg, hl, hs, hn2⟩
    have hv : v = .slice none 0 0 := hs
    subst hv
    dsimp only [srC]
    clear cC cS cM cR fR lR fS lS l1 l2
    have bC2 := bC1.new hn2
    have bS2 := bS1.new hn2
    have bM2 := bM1.new hn2
    have bR2 := bR1.new hn2
    have N2 := N1.trans hn2
    clear bC1 bS1 bM1 bR1 N1
    have cC := bC2.cells
    have cS := bS2.cells
    have cM := bM2.cells
    have cR := bR2.cells
    have fR := bR2.frees
    have lR := bR2.lt
    have fS := bS2.frees
    have lS := bS2.lt
    have l1 : w.heap.size < w2.heap.size := by omega
    have l2 : w.heap.size + 1 + 1 < w2.heap.size := by omega
    clear hn2 hgg
    go_wp2
    refine bodyPost_ret (v := .agg (srC k 0 0 0 0 0 (.slice none 0 0) false false false)) (by simp [results, Try.results7, go_sem, cR]) rfl ⟨w.heap.size, _, rfl, Nat.le_refl _, by simp [World.setCell]; omega, rfl, ?_⟩
    simp (disch := exact ge2) only [New.set5, N2]
  by_cases q0 : mf kd sa mh mi wh su gs has mo xs nx md lc rs = 0
  case neg =>
    rw [show hearsR ca ci ch st pe ho si sp kd sa mh (mf kd sa mh mi wh su gs has mo xs nx md lc rs) = badR (mf kd sa mh mi wh su gs has mo xs nx md lc rs) from by unfold hearsR; rw [if_pos h0, if_neg q0]]
    have z1 : (mf kd sa mh mi wh su gs has mo xs nx md lc rs != 0) = true := by simpa using q0
    go_enter Try.func7, Try.ntmps7
    go_wp2_with fail
    refine (specAsk ca ci ch st pe ho si sp _).mono ?_
    rintro e w1 ⟨rfl, hn1⟩
    have bC1 := bC0.new hn1
    have bS1 := bS0.new hn1
    have bM1 := bM0.new hn1
    have bR1 := bR0.new hn1
    have N1 := N0.trans hn1
    clear bC0 bS0 bM0 bR0 N0
    have cC := bC1.cells
    have cS := bS1.cells
    have cM := bM1.cells
    have cR := bR1.cells
    have fR := bR1.frees
    have lR := bR1.lt
    have fS := bS1.frees
    have lS := bS1.lt
    have l1 : w.heap.size < w1.heap.size := by omega
    have l2 : w.heap.size + 1 + 1 < w1.heap.size := by omega
    clear hn1
    rw [h0]
    clear h0
    go_wp2_with fail
    refine (specMF ga pa ra gn gc pn pc rn rc has mo nx md lc gs rs xs kd sa mh mi wh su _ (hg.new N1) (hx.new N1) (hr.new N1) hgn hpn hrn hm1 hm2 hm3).mono ?_
    rintro e w2 ⟨rfl, hn2⟩
    clear cC cS cM cR fR lR fS lS l1 l2
    have bC2 := bC1.new hn2
    have bS2 := bS1.new hn2
    have bM2 := bM1.new hn2
    have bR2 := bR1.new hn2
    have N2 := N1.trans hn2
    clear bC1 bS1 bM1 bR1 N1
    have cC := bC2.cells
    have cS := bS2.cells
    have cM := bM2.cells
    have cR := bR2.cells
    have fR := bR2.frees
    have lR := bR2.lt
    have fS := bS2.frees
    have lS := bS2.lt
    have l1 : w.heap.size < w2.heap.size := by omega
    have l2 : w.heap.size + 1 + 1 < w2.heap.size := by omega
    clear hn2
    generalize mf kd sa mh mi wh su gs has mo xs nx md lc rs = k at *
    clear hg hx hr hgn hpn hrn hm1 hm2 hm3
    go_wp2_with fail
    refine (specBad k _).mono ?_
    rintro e w3 ⟨g, v, rfl, hgg, hl, hs, hn3⟩
    have hv : v = .slice none 0 0 := hs
    subst hv
    dsimp only [srC]
    clear cC cS cM cR fR lR fS lS l1 l2
    have bC3 := bC2.new hn3
    have bS3 := bS2.new hn3
    have bM3 := bM2.new hn3
    have bR3 := bR2.new hn3
    have N3 := N2.trans hn3
    clear bC2 bS2 bM2 bR2 N2
    have cC := bC3.cells
    have cS := bS3.cells
    have cM := bM3.cells
    have cR := bR3.cells
    have fR := bR3.frees
    have lR := bR3.lt
    have fS := bS3.frees
    have lS := bS3.lt
    have l1 : w.heap.size < w3.heap.size := by omega
    have l2 : w.heap.size + 1 + 1 < w3.heap.size := by omega
    clear hn3 hgg
    go_wp2
    refine bodyPost_ret (v := .agg (srC k 0 0 0 0 0 (.slice none 0 0) false false false)) (by simp [results, Try.results7, go_sem, cR]) rfl ⟨w.heap.size, _, rfl, Nat.le_refl _, by simp [World.setCell]; omega, rfl, ?_⟩
    simp (disch := exact ge2) only [New.set5, N3]
  rw [show hearsR ca ci ch st pe ho si sp kd sa mh (mf kd sa mh mi wh su gs has mo xs nx md lc rs) = hears0 st pe ho sp ch kd sa mh from by unfold hearsR; rw [if_pos h0, if_pos q0]]
  have hs := ask_ok h0
  have hi := ask_idle h0
  have hk : 1 ≤ kd ∧ kd ≤ 4 := by
    by_cases hb : kd < 1 ∨ 4 < kd
    · rw [mf_none hb] at q0; cases q0
    · omega
  have hT : Hid (∀ W, Calls Try.prog 22 #[.agg #[.int .i64 ca, .int .i64 ci, .int .i64 ch], .agg #[.int .i64 st, .int .i64 pe, .int .i64 ho, .int .i64 si, .int .i64 sp], .agg #[.int .i64 kd, .int .i64 sa, .int .i64 mh, .int .i64 mi, .int .i64 wh, .int .i64 su, .slice ga gn gc, .bool has, .int .i64 mo, .slice pa pn pc, .int .i64 nx, .int .i64 md, .int .i64 lc, .slice ra rn rc]] W (Ans W (hears0 st pe ho sp ch kd sa mh))) := fun W => specHr ca ci ch st pe ho si sp kd sa mh mi wh su ga pa ra gn gc pn pc rn rc has mo nx md lc W hs.1 hk hi
  generalize hears0 st pe ho sp ch kd sa mh = r at *
  clear hs hi hk
  go_enter Try.func7, Try.ntmps7
  go_wp2_with fail
  refine (specAsk ca ci ch st pe ho si sp _).mono ?_
  rintro e w1 ⟨rfl, hn1⟩
  have bC1 := bC0.new hn1
  have bS1 := bS0.new hn1
  have bM1 := bM0.new hn1
  have bR1 := bR0.new hn1
  have N1 := N0.trans hn1
  clear bC0 bS0 bM0 bR0 N0
  have cC := bC1.cells
  have cS := bS1.cells
  have cM := bM1.cells
  have cR := bR1.cells
  have fR := bR1.frees
  have lR := bR1.lt
  have fS := bS1.frees
  have lS := bS1.lt
  have l1 : w.heap.size < w1.heap.size := by omega
  have l2 : w.heap.size + 1 + 1 < w1.heap.size := by omega
  clear hn1
  rw [h0]
  clear h0
  go_wp2_with fail
  refine (specMF ga pa ra gn gc pn pc rn rc has mo nx md lc gs rs xs kd sa mh mi wh su _ (hg.new N1) (hx.new N1) (hr.new N1) hgn hpn hrn hm1 hm2 hm3).mono ?_
  rintro e w2 ⟨rfl, hn2⟩
  clear cC cS cM cR fR lR fS lS l1 l2
  have bC2 := bC1.new hn2
  have bS2 := bS1.new hn2
  have bM2 := bM1.new hn2
  have bR2 := bR1.new hn2
  have N2 := N1.trans hn2
  clear bC1 bS1 bM1 bR1 N1
  have cC := bC2.cells
  have cS := bS2.cells
  have cM := bM2.cells
  have cR := bR2.cells
  have fR := bR2.frees
  have lR := bR2.lt
  have fS := bS2.frees
  have lS := bS2.lt
  have l1 : w.heap.size < w2.heap.size := by omega
  have l2 : w.heap.size + 1 + 1 < w2.heap.size := by omega
  clear hn2
  rw [q0]
  clear q0 hg hx hr hgn hpn hrn hm1 hm2 hm3
  go_wp2_with fail
  refine (hT.out _).mono ?_
  rintro e w3 ⟨g, v, rfl, hgg, hl, hs, hn3⟩
  obtain ⟨a, hv⟩ := hs.form
  obtain ⟨c, rt, rp, rh, ri, rs5, say, up, dn, ud⟩ := r
  dsimp only [srC] at *
  generalize sayN say = n at *
  subst hv
  have ne : ¬ w.heap.size + 1 + 1 + 1 = g := by omega
  have hg0 : w.heap.size ≤ g := by omega
  clear hgg
  clear cC cS cM cR fR lR fS lS l1 l2
  have bC3 := bC2.new hn3
  have bS3 := bS2.new hn3
  have bM3 := bM2.new hn3
  have bR3 := bR2.new hn3
  have N3 := N2.trans hn3
  clear bC2 bS2 bM2 bR2 N2
  have cC := bC3.cells
  have cS := bS3.cells
  have cM := bM3.cells
  have cR := bR3.cells
  have fR := bR3.frees
  have lR := bR3.lt
  have fS := bS3.frees
  have lS := bS3.lt
  have l1 : w.heap.size < w3.heap.size := by omega
  have l2 : w.heap.size + 1 + 1 < w3.heap.size := by omega
  clear hn3
  go_wp2
  refine bodyPost_ret (v := .agg (srC c rt rp rh ri rs5 (.slice a n n) up dn ud)) (by simp [results, Try.results7, go_sem, cR]) rfl ⟨g, _, rfl, hg0, by simp [World.setCell]; omega, ?_, ?_⟩
  · simp (disch := exact ne) only [SayAt.set5]; exact hs
  simp (disch := exact ge2) only [New.set5, N3]

end Go.Proofs.Yteniieagcehmpaa
