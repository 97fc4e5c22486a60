/- What is proved here: what the states of a session hear, in the program, for every message. No condition but the kind of the message. -/
import Derived.Test.YteniieagcehmpaaS5Tick
namespace Go.Proofs.Yteniieagcehmpaa
open Go.RowKit
set_option linter.unusedVariables false
set_option linter.unusedSimpArgs false

/-- What a session of a state hears: what it answers (the count of what was spoken not yet taken back). -/
def hearR (st pe ho si sp ch kd sa mh : Int) : Rs :=
  if st = 0 then sesR st pe ho si sp
  else if st = 1 then (if kd = 1 then keepR 2 sa (min ch mh) si sp else if kd = 3 then endR st else failR st 5 1)
  else if st = 2 then (if kd = 1 then failR st 6 7 else if kd = 3 then endR st else if kd = 4 then ⟨0, 3, pe, ho, si, sp, none, true, false, false⟩ else failR st 5 2)
  else (if kd = 1 then failR st 6 7 else if kd = 3 then endR st else ⟨0, st, pe, ho, si, sp, none, false, false, kd == 2⟩)

set_option maxHeartbeats 1600000 in
theorem implHear0 (ca ci ch st pe ho si sp kd sa mh mi wh su : Int) (ga pa ra : Option Addr) (gn gc pn pc rn rc : Nat) (has : Bool) (mo nx md lc : Int) (w : World) : Calls Try.prog 37 #[.agg #[.int .i64 ca, .int .i64 ci, .int .i64 ch], .agg #[.int .i64 st, .int .i64 pe, .int .i64 ho, .int .i64 si, .int .i64 sp], .agg #[.int .i64 kd, .int .i64 sa, .int .i64 mh, .int .i64 mi, .int .i64 wh, .int .i64 su, .slice ga gn gc, .bool has, .int .i64 mo, .slice pa pn pc, .int .i64 nx, .int .i64 md, .int .i64 lc, .slice ra rn rc]] w (Ans w (sesR st pe ho si sp)) := by
  go_enter Try.func37, Try.ntmps37
  go_wp2
  refine bodyPost_ret (v := .agg (srC 0 st pe ho si sp (.slice none 0 0) false false false)) (by simp [results, Try.results37, go_sem]) rfl ⟨w.heap.size, _, rfl, Nat.le_refl _, by simp; omega, rfl, ((((New.refl w).alloc _).alloc _).alloc _).alloc _⟩

set_option maxHeartbeats 1600000 in
theorem implHear1 (ca ci ch st pe ho si sp kd sa mh mi wh su : Int) (ga pa ra : Option Addr) (gn gc pn pc rn rc : Nat) (has : Bool) (mo nx md lc : Int) (w : World) (hk : 1 ≤ kd ∧ kd ≤ 4) : Calls Try.prog 39 #[.agg #[.int .i64 ca, .int .i64 ci, .int .i64 ch], .agg #[.int .i64 st, .int .i64 pe, .int .i64 ho, .int .i64 si, .int .i64 sp], .agg #[.int .i64 kd, .int .i64 sa, .int .i64 mh, .int .i64 mi, .int .i64 wh, .int .i64 su, .slice ga gn gc, .bool has, .int .i64 mo, .slice pa pn pc, .int .i64 nx, .int .i64 md, .int .i64 lc, .slice ra rn rc]] w (Ans w (if kd = 1 then keepR 2 sa (min ch mh) si sp else if kd = 3 then endR st else failR st 5 1)) := by
  rcases (show kd = 1 ∨ kd = 2 ∨ kd = 3 ∨ kd = 4 by omega) with rfl | rfl | rfl | rfl
  · rw [if_pos rfl]
    by_cases hm : mh < ch
    · rw [show min ch mh = mh by omega]
      have bR0 : Blk ((((w.alloc (.cells #[.int .i64 ca, .int .i64 ci, .int .i64 ch] 25)).alloc (.cells #[.int .i64 2, .int .i64 sa, .int .i64 mh, .int .i64 si, .int .i64 sp] 27)).alloc (.cells #[.int .i64 1, .int .i64 sa, .int .i64 mh, .int .i64 mi, .int .i64 wh, .int .i64 su, .slice ga gn gc, .bool has, .int .i64 mo, .slice pa pn pc, .int .i64 nx, .int .i64 md, .int .i64 lc, .slice ra rn rc] 35)).alloc (.cells #[.int .i64 0, .int .i64 0, .int .i64 0, .int .i64 0, .int .i64 0, .int .i64 0, .slice none 0 0, .bool false, .bool false, .bool false] 40)) (w.heap.size + 1 + 1 + 1) 40 #[.int .i64 0, .int .i64 0, .int .i64 0, .int .i64 0, .int .i64 0, .int .i64 0, .slice none 0 0, .bool false, .bool false, .bool false] := Blk.mk _ _ _ _ (by simp)
      have N0 : New w ((((w.alloc (.cells #[.int .i64 ca, .int .i64 ci, .int .i64 ch] 25)).alloc (.cells #[.int .i64 2, .int .i64 sa, .int .i64 mh, .int .i64 si, .int .i64 sp] 27)).alloc (.cells #[.int .i64 1, .int .i64 sa, .int .i64 mh, .int .i64 mi, .int .i64 wh, .int .i64 su, .slice ga gn gc, .bool has, .int .i64 mo, .slice pa pn pc, .int .i64 nx, .int .i64 md, .int .i64 lc, .slice ra rn rc] 35)).alloc (.cells #[.int .i64 0, .int .i64 0, .int .i64 0, .int .i64 0, .int .i64 0, .int .i64 0, .slice none 0 0, .bool false, .bool false, .bool false] 40)) := ((((New.refl w).alloc _).alloc _).alloc _).alloc _
      go_enter Try.func39, Try.ntmps39
      go_wp2_with fail
      go_region
      all_goals
        go_wp2_with fail
        refine (implKeep 2 sa mh si sp _).mono ?_
        rintro e w3 ⟨g, v, rfl, hg, hl, hs, hn3⟩
        obtain ⟨hv, hb⟩ := hs
        subst hv
        simp at hg
        have ne : ¬ w.heap.size + 1 + 1 + 1 = g := by omega
        have hg0 : w.heap.size ≤ g := by omega
        have ge2 : w.heap.size ≤ w.heap.size + 1 + 1 + 1 := by omega
        dsimp only [srC]
        have bR3 := bR0.new (((New.refl _).drew).trans hn3)
        have N3 := N0.trans (((New.refl _).drew).trans hn3)
        have cR := bR3.cells
        have fR := bR3.frees
        have lR := bR3.lt
        clear bR0 N0 hn3 hg
        go_wp2
        refine bodyPost_ret (v := .agg (srC 0 2 sa mh si sp (.slice (some ⟨g, 0, none⟩) 1 1) false false false)) (by simp [results, Try.results39, go_sem, cR]) rfl ⟨g, _, rfl, hg0, by simp [World.setCell]; omega, ⟨rfl, ?_⟩, ?_⟩
        · simp (disch := exact ne) only [Blk.set5]; exact hb
        simp (disch := exact ge2) only [New.set5, N3]
    · rw [show min ch mh = ch by omega]
      have bR0 : Blk ((((w.alloc (.cells #[.int .i64 ca, .int .i64 ci, .int .i64 ch] 25)).alloc (.cells #[.int .i64 2, .int .i64 sa, .int .i64 ch, .int .i64 si, .int .i64 sp] 27)).alloc (.cells #[.int .i64 1, .int .i64 sa, .int .i64 mh, .int .i64 mi, .int .i64 wh, .int .i64 su, .slice ga gn gc, .bool has, .int .i64 mo, .slice pa pn pc, .int .i64 nx, .int .i64 md, .int .i64 lc, .slice ra rn rc] 35)).alloc (.cells #[.int .i64 0, .int .i64 0, .int .i64 0, .int .i64 0, .int .i64 0, .int .i64 0, .slice none 0 0, .bool false, .bool false, .bool false] 40)) (w.heap.size + 1 + 1 + 1) 40 #[.int .i64 0, .int .i64 0, .int .i64 0, .int .i64 0, .int .i64 0, .int .i64 0, .slice none 0 0, .bool false, .bool false, .bool false] := Blk.mk _ _ _ _ (by simp)
      have N0 : New w ((((w.alloc (.cells #[.int .i64 ca, .int .i64 ci, .int .i64 ch] 25)).alloc (.cells #[.int .i64 2, .int .i64 sa, .int .i64 ch, .int .i64 si, .int .i64 sp] 27)).alloc (.cells #[.int .i64 1, .int .i64 sa, .int .i64 mh, .int .i64 mi, .int .i64 wh, .int .i64 su, .slice ga gn gc, .bool has, .int .i64 mo, .slice pa pn pc, .int .i64 nx, .int .i64 md, .int .i64 lc, .slice ra rn rc] 35)).alloc (.cells #[.int .i64 0, .int .i64 0, .int .i64 0, .int .i64 0, .int .i64 0, .int .i64 0, .slice none 0 0, .bool false, .bool false, .bool false] 40)) := ((((New.refl w).alloc _).alloc _).alloc _).alloc _
      go_enter Try.func39, Try.ntmps39
      go_wp2_with fail
      go_region
      all_goals
        go_wp2_with fail
        refine (implKeep 2 sa ch si sp _).mono ?_
        rintro e w3 ⟨g, v, rfl, hg, hl, hs, hn3⟩
        obtain ⟨hv, hb⟩ := hs
        subst hv
        simp at hg
        have ne : ¬ w.heap.size + 1 + 1 + 1 = g := by omega
        have hg0 : w.heap.size ≤ g := by omega
        have ge2 : w.heap.size ≤ w.heap.size + 1 + 1 + 1 := by omega
        dsimp only [srC]
        have bR3 := bR0.new (((New.refl _).drew).trans hn3)
        have N3 := N0.trans (((New.refl _).drew).trans hn3)
        have cR := bR3.cells
        have fR := bR3.frees
        have lR := bR3.lt
        clear bR0 N0 hn3 hg
        go_wp2
        refine bodyPost_ret (v := .agg (srC 0 2 sa ch si sp (.slice (some ⟨g, 0, none⟩) 1 1) false false false)) (by simp [results, Try.results39, go_sem, cR]) rfl ⟨g, _, rfl, hg0, by simp [World.setCell]; omega, ⟨rfl, ?_⟩, ?_⟩
        · simp (disch := exact ne) only [Blk.set5]; exact hb
        simp (disch := exact ge2) only [New.set5, N3]
  · rw [if_neg (by decide), if_neg (by decide)]
    have bR0 : Blk ((((w.alloc (.cells #[.int .i64 ca, .int .i64 ci, .int .i64 ch] 25)).alloc (.cells #[.int .i64 st, .int .i64 pe, .int .i64 ho, .int .i64 si, .int .i64 sp] 27)).alloc (.cells #[.int .i64 2, .int .i64 sa, .int .i64 mh, .int .i64 mi, .int .i64 wh, .int .i64 su, .slice ga gn gc, .bool has, .int .i64 mo, .slice pa pn pc, .int .i64 nx, .int .i64 md, .int .i64 lc, .slice ra rn rc] 35)).alloc (.cells #[.int .i64 0, .int .i64 0, .int .i64 0, .int .i64 0, .int .i64 0, .int .i64 0, .slice none 0 0, .bool false, .bool false, .bool false] 40)) (w.heap.size + 1 + 1 + 1) 40 #[.int .i64 0, .int .i64 0, .int .i64 0, .int .i64 0, .int .i64 0, .int .i64 0, .slice none 0 0, .bool false, .bool false, .bool false] := Blk.mk _ _ _ _ (by simp)
    have N0 : New w ((((w.alloc (.cells #[.int .i64 ca, .int .i64 ci, .int .i64 ch] 25)).alloc (.cells #[.int .i64 st, .int .i64 pe, .int .i64 ho, .int .i64 si, .int .i64 sp] 27)).alloc (.cells #[.int .i64 2, .int .i64 sa, .int .i64 mh, .int .i64 mi, .int .i64 wh, .int .i64 su, .slice ga gn gc, .bool has, .int .i64 mo, .slice pa pn pc, .int .i64 nx, .int .i64 md, .int .i64 lc, .slice ra rn rc] 35)).alloc (.cells #[.int .i64 0, .int .i64 0, .int .i64 0, .int .i64 0, .int .i64 0, .int .i64 0, .slice none 0 0, .bool false, .bool false, .bool false] 40)) := ((((New.refl w).alloc _).alloc _).alloc _).alloc _
    go_enter Try.func39, Try.ntmps39
    go_wp2_with fail
    refine (implFailed st pe ho si sp 5 1 _).mono ?_
    rintro e w3 ⟨g, v, rfl, hg, hl, hs, hn3⟩
    obtain ⟨hv, hb⟩ := hs
    subst hv
    simp at hg
    have ne : ¬ w.heap.size + 1 + 1 + 1 = g := by omega
    have hg0 : w.heap.size ≤ g := by omega
    have ge2 : w.heap.size ≤ w.heap.size + 1 + 1 + 1 := by omega
    dsimp only [srC]
    have bR3 := bR0.new hn3
    have N3 := N0.trans hn3
    have cR := bR3.cells
    have fR := bR3.frees
    have lR := bR3.lt
    clear bR0 N0 hn3 hg
    go_wp2
    refine bodyPost_ret (v := .agg (srC 0 0 0 0 0 0 (.slice (some ⟨g, 0, none⟩) 1 1) false (st == 3) false)) (by simp [results, Try.results39, go_sem, cR]) rfl ⟨g, _, rfl, hg0, by simp [World.setCell]; omega, ⟨rfl, ?_⟩, ?_⟩
    · simp (disch := exact ne) only [Blk.set5]; exact hb
    simp (disch := exact ge2) only [New.set5, N3]
  · rw [if_neg (by decide), if_pos rfl]
    have bR0 : Blk ((((w.alloc (.cells #[.int .i64 ca, .int .i64 ci, .int .i64 ch] 25)).alloc (.cells #[.int .i64 st, .int .i64 pe, .int .i64 ho, .int .i64 si, .int .i64 sp] 27)).alloc (.cells #[.int .i64 3, .int .i64 sa, .int .i64 mh, .int .i64 mi, .int .i64 wh, .int .i64 su, .slice ga gn gc, .bool has, .int .i64 mo, .slice pa pn pc, .int .i64 nx, .int .i64 md, .int .i64 lc, .slice ra rn rc] 35)).alloc (.cells #[.int .i64 0, .int .i64 0, .int .i64 0, .int .i64 0, .int .i64 0, .int .i64 0, .slice none 0 0, .bool false, .bool false, .bool false] 40)) (w.heap.size + 1 + 1 + 1) 40 #[.int .i64 0, .int .i64 0, .int .i64 0, .int .i64 0, .int .i64 0, .int .i64 0, .slice none 0 0, .bool false, .bool false, .bool false] := Blk.mk _ _ _ _ (by simp)
    have N0 : New w ((((w.alloc (.cells #[.int .i64 ca, .int .i64 ci, .int .i64 ch] 25)).alloc (.cells #[.int .i64 st, .int .i64 pe, .int .i64 ho, .int .i64 si, .int .i64 sp] 27)).alloc (.cells #[.int .i64 3, .int .i64 sa, .int .i64 mh, .int .i64 mi, .int .i64 wh, .int .i64 su, .slice ga gn gc, .bool has, .int .i64 mo, .slice pa pn pc, .int .i64 nx, .int .i64 md, .int .i64 lc, .slice ra rn rc] 35)).alloc (.cells #[.int .i64 0, .int .i64 0, .int .i64 0, .int .i64 0, .int .i64 0, .int .i64 0, .slice none 0 0, .bool false, .bool false, .bool false] 40)) := ((((New.refl w).alloc _).alloc _).alloc _).alloc _
    go_enter Try.func39, Try.ntmps39
    go_wp2_with fail
    refine (implEnded st pe ho si sp _).mono ?_
    rintro e w3 ⟨g, v, rfl, hg, hl, hs, hn3⟩
    have hv : v = .slice none 0 0 := hs
    subst hv
    simp at hg
    have ne : ¬ w.heap.size + 1 + 1 + 1 = g := by omega
    have hg0 : w.heap.size ≤ g := by omega
    have ge2 : w.heap.size ≤ w.heap.size + 1 + 1 + 1 := by omega
    dsimp only [srC]
    have bR3 := bR0.new hn3
    have N3 := N0.trans hn3
    have cR := bR3.cells
    have fR := bR3.frees
    have lR := bR3.lt
    clear bR0 N0 hn3 hg
    go_wp2
    refine bodyPost_ret (v := .agg (srC 0 0 0 0 0 0 (.slice none 0 0) false (st == 3) false)) (by simp [results, Try.results39, go_sem, cR]) rfl ⟨w.heap.size, _, rfl, Nat.le_refl _, by simp [World.setCell]; omega, rfl, ?_⟩
    simp (disch := exact ge2) only [New.set5, N3]
  · rw [if_neg (by decide), if_neg (by decide)]
    have bR0 : Blk ((((w.alloc (.cells #[.int .i64 ca, .int .i64 ci, .int .i64 ch] 25)).alloc (.cells #[.int .i64 st, .int .i64 pe, .int .i64 ho, .int .i64 si, .int .i64 sp] 27)).alloc (.cells #[.int .i64 4, .int .i64 sa, .int .i64 mh, .int .i64 mi, .int .i64 wh, .int .i64 su, .slice ga gn gc, .bool has, .int .i64 mo, .slice pa pn pc, .int .i64 nx, .int .i64 md, .int .i64 lc, .slice ra rn rc] 35)).alloc (.cells #[.int .i64 0, .int .i64 0, .int .i64 0, .int .i64 0, .int .i64 0, .int .i64 0, .slice none 0 0, .bool false, .bool false, .bool false] 40)) (w.heap.size + 1 + 1 + 1) 40 #[.int .i64 0, .int .i64 0, .int .i64 0, .int .i64 0, .int .i64 0, .int .i64 0, .slice none 0 0, .bool false, .bool false, .bool false] := Blk.mk _ _ _ _ (by simp)
    have N0 : New w ((((w.alloc (.cells #[.int .i64 ca, .int .i64 ci, .int .i64 ch] 25)).alloc (.cells #[.int .i64 st, .int .i64 pe, .int .i64 ho, .int .i64 si, .int .i64 sp] 27)).alloc (.cells #[.int .i64 4, .int .i64 sa, .int .i64 mh, .int .i64 mi, .int .i64 wh, .int .i64 su, .slice ga gn gc, .bool has, .int .i64 mo, .slice pa pn pc, .int .i64 nx, .int .i64 md, .int .i64 lc, .slice ra rn rc] 35)).alloc (.cells #[.int .i64 0, .int .i64 0, .int .i64 0, .int .i64 0, .int .i64 0, .int .i64 0, .slice none 0 0, .bool false, .bool false, .bool false] 40)) := ((((New.refl w).alloc _).alloc _).alloc _).alloc _
    go_enter Try.func39, Try.ntmps39
    go_wp2_with fail
    refine (implFailed st pe ho si sp 5 1 _).mono ?_
    rintro e w3 ⟨g, v, rfl, hg, hl, hs, hn3⟩
    obtain ⟨hv, hb⟩ := hs
    subst hv
    simp at hg
    have ne : ¬ w.heap.size + 1 + 1 + 1 = g := by omega
    have hg0 : w.heap.size ≤ g := by omega
    have ge2 : w.heap.size ≤ w.heap.size + 1 + 1 + 1 := by omega
    dsimp only [srC]
    have bR3 := bR0.new hn3
    have N3 := N0.trans hn3
    have cR := bR3.cells
    have fR := bR3.frees
    have lR := bR3.lt
    clear bR0 N0 hn3 hg
    go_wp2
    refine bodyPost_ret (v := .agg (srC 0 0 0 0 0 0 (.slice (some ⟨g, 0, none⟩) 1 1) false (st == 3) false)) (by simp [results, Try.results39, go_sem, cR]) rfl ⟨g, _, rfl, hg0, by simp [World.setCell]; omega, ⟨rfl, ?_⟩, ?_⟩
    · simp (disch := exact ne) only [Blk.set5]; exact hb
    simp (disch := exact ge2) only [New.set5, N3]

set_option maxHeartbeats 1600000 in
theorem implHear2 (ca ci ch st pe ho si sp kd sa mh mi wh su : Int) (ga pa ra : Option Addr) (gn gc pn pc rn rc : Nat) (has : Bool) (mo nx md lc : Int) (w : World) (hk : 1 ≤ kd ∧ kd ≤ 4) : Calls Try.prog 41 #[.agg #[.int .i64 ca, .int .i64 ci, .int .i64 ch], .agg #[.int .i64 st, .int .i64 pe, .int .i64 ho, .int .i64 si, .int .i64 sp], .agg #[.int .i64 kd, .int .i64 sa, .int .i64 mh, .int .i64 mi, .int .i64 wh, .int .i64 su, .slice ga gn gc, .bool has, .int .i64 mo, .slice pa pn pc, .int .i64 nx, .int .i64 md, .int .i64 lc, .slice ra rn rc]] w (Ans w (if kd = 1 then failR st 6 7 else if kd = 3 then endR st else if kd = 4 then ⟨0, 3, pe, ho, si, sp, none, true, false, false⟩ else failR st 5 2)) := by
  rcases (show kd = 1 ∨ kd = 2 ∨ kd = 3 ∨ kd = 4 by omega) with rfl | rfl | rfl | rfl
  · rw [if_pos rfl]
    have bR0 : Blk ((((w.alloc (.cells #[.int .i64 ca, .int .i64 ci, .int .i64 ch] 25)).alloc (.cells #[.int .i64 st, .int .i64 pe, .int .i64 ho, .int .i64 si, .int .i64 sp] 27)).alloc (.cells #[.int .i64 1, .int .i64 sa, .int .i64 mh, .int .i64 mi, .int .i64 wh, .int .i64 su, .slice ga gn gc, .bool has, .int .i64 mo, .slice pa pn pc, .int .i64 nx, .int .i64 md, .int .i64 lc, .slice ra rn rc] 35)).alloc (.cells #[.int .i64 0, .int .i64 0, .int .i64 0, .int .i64 0, .int .i64 0, .int .i64 0, .slice none 0 0, .bool false, .bool false, .bool false] 40)) (w.heap.size + 1 + 1 + 1) 40 #[.int .i64 0, .int .i64 0, .int .i64 0, .int .i64 0, .int .i64 0, .int .i64 0, .slice none 0 0, .bool false, .bool false, .bool false] := Blk.mk _ _ _ _ (by simp)
    have N0 : New w ((((w.alloc (.cells #[.int .i64 ca, .int .i64 ci, .int .i64 ch] 25)).alloc (.cells #[.int .i64 st, .int .i64 pe, .int .i64 ho, .int .i64 si, .int .i64 sp] 27)).alloc (.cells #[.int .i64 1, .int .i64 sa, .int .i64 mh, .int .i64 mi, .int .i64 wh, .int .i64 su, .slice ga gn gc, .bool has, .int .i64 mo, .slice pa pn pc, .int .i64 nx, .int .i64 md, .int .i64 lc, .slice ra rn rc] 35)).alloc (.cells #[.int .i64 0, .int .i64 0, .int .i64 0, .int .i64 0, .int .i64 0, .int .i64 0, .slice none 0 0, .bool false, .bool false, .bool false] 40)) := ((((New.refl w).alloc _).alloc _).alloc _).alloc _
    go_enter Try.func41, Try.ntmps41
    go_wp2_with fail
    refine (implFailed st pe ho si sp 6 7 _).mono ?_
    rintro e w3 ⟨g, v, rfl, hg, hl, hs, hn3⟩
    obtain ⟨hv, hb⟩ := hs
    subst hv
    simp at hg
    have ne : ¬ w.heap.size + 1 + 1 + 1 = g := by omega
    have hg0 : w.heap.size ≤ g := by omega
    have ge2 : w.heap.size ≤ w.heap.size + 1 + 1 + 1 := by omega
    dsimp only [srC]
    have bR3 := bR0.new hn3
    have N3 := N0.trans hn3
    have cR := bR3.cells
    have fR := bR3.frees
    have lR := bR3.lt
    clear bR0 N0 hn3 hg
    go_wp2
    refine bodyPost_ret (v := .agg (srC 0 0 0 0 0 0 (.slice (some ⟨g, 0, none⟩) 1 1) false (st == 3) false)) (by simp [results, Try.results41, go_sem, cR]) rfl ⟨g, _, rfl, hg0, by simp [World.setCell]; omega, ⟨rfl, ?_⟩, ?_⟩
    · simp (disch := exact ne) only [Blk.set5]; exact hb
    simp (disch := exact ge2) only [New.set5, N3]
  · rw [if_neg (by decide), if_neg (by decide), if_neg (by decide)]
    have bR0 : Blk ((((w.alloc (.cells #[.int .i64 ca, .int .i64 ci, .int .i64 ch] 25)).alloc (.cells #[.int .i64 st, .int .i64 pe, .int .i64 ho, .int .i64 si, .int .i64 sp] 27)).alloc (.cells #[.int .i64 2, .int .i64 sa, .int .i64 mh, .int .i64 mi, .int .i64 wh, .int .i64 su, .slice ga gn gc, .bool has, .int .i64 mo, .slice pa pn pc, .int .i64 nx, .int .i64 md, .int .i64 lc, .slice ra rn rc] 35)).alloc (.cells #[.int .i64 0, .int .i64 0, .int .i64 0, .int .i64 0, .int .i64 0, .int .i64 0, .slice none 0 0, .bool false, .bool false, .bool false] 40)) (w.heap.size + 1 + 1 + 1) 40 #[.int .i64 0, .int .i64 0, .int .i64 0, .int .i64 0, .int .i64 0, .int .i64 0, .slice none 0 0, .bool false, .bool false, .bool false] := Blk.mk _ _ _ _ (by simp)
    have N0 : New w ((((w.alloc (.cells #[.int .i64 ca, .int .i64 ci, .int .i64 ch] 25)).alloc (.cells #[.int .i64 st, .int .i64 pe, .int .i64 ho, .int .i64 si, .int .i64 sp] 27)).alloc (.cells #[.int .i64 2, .int .i64 sa, .int .i64 mh, .int .i64 mi, .int .i64 wh, .int .i64 su, .slice ga gn gc, .bool has, .int .i64 mo, .slice pa pn pc, .int .i64 nx, .int .i64 md, .int .i64 lc, .slice ra rn rc] 35)).alloc (.cells #[.int .i64 0, .int .i64 0, .int .i64 0, .int .i64 0, .int .i64 0, .int .i64 0, .slice none 0 0, .bool false, .bool false, .bool false] 40)) := ((((New.refl w).alloc _).alloc _).alloc _).alloc _
    go_enter Try.func41, Try.ntmps41
    go_wp2_with fail
    refine (implFailed st pe ho si sp 5 2 _).mono ?_
    rintro e w3 ⟨g, v, rfl, hg, hl, hs, hn3⟩
    obtain ⟨hv, hb⟩ := hs
    subst hv
    simp at hg
    have ne : ¬ w.heap.size + 1 + 1 + 1 = g := by omega
    have hg0 : w.heap.size ≤ g := by omega
    have ge2 : w.heap.size ≤ w.heap.size + 1 + 1 + 1 := by omega
    dsimp only [srC]
    have bR3 := bR0.new hn3
    have N3 := N0.trans hn3
    have cR := bR3.cells
    have fR := bR3.frees
    have lR := bR3.lt
    clear bR0 N0 hn3 hg
    go_wp2
    refine bodyPost_ret (v := .agg (srC 0 0 0 0 0 0 (.slice (some ⟨g, 0, none⟩) 1 1) false (st == 3) false)) (by simp [results, Try.results41, go_sem, cR]) rfl ⟨g, _, rfl, hg0, by simp [World.setCell]; omega, ⟨rfl, ?_⟩, ?_⟩
    · simp (disch := exact ne) only [Blk.set5]; exact hb
    simp (disch := exact ge2) only [New.set5, N3]
  · rw [if_neg (by decide), if_pos rfl]
    have bR0 : Blk ((((w.alloc (.cells #[.int .i64 ca, .int .i64 ci, .int .i64 ch] 25)).alloc (.cells #[.int .i64 st, .int .i64 pe, .int .i64 ho, .int .i64 si, .int .i64 sp] 27)).alloc (.cells #[.int .i64 3, .int .i64 sa, .int .i64 mh, .int .i64 mi, .int .i64 wh, .int .i64 su, .slice ga gn gc, .bool has, .int .i64 mo, .slice pa pn pc, .int .i64 nx, .int .i64 md, .int .i64 lc, .slice ra rn rc] 35)).alloc (.cells #[.int .i64 0, .int .i64 0, .int .i64 0, .int .i64 0, .int .i64 0, .int .i64 0, .slice none 0 0, .bool false, .bool false, .bool false] 40)) (w.heap.size + 1 + 1 + 1) 40 #[.int .i64 0, .int .i64 0, .int .i64 0, .int .i64 0, .int .i64 0, .int .i64 0, .slice none 0 0, .bool false, .bool false, .bool false] := Blk.mk _ _ _ _ (by simp)
    have N0 : New w ((((w.alloc (.cells #[.int .i64 ca, .int .i64 ci, .int .i64 ch] 25)).alloc (.cells #[.int .i64 st, .int .i64 pe, .int .i64 ho, .int .i64 si, .int .i64 sp] 27)).alloc (.cells #[.int .i64 3, .int .i64 sa, .int .i64 mh, .int .i64 mi, .int .i64 wh, .int .i64 su, .slice ga gn gc, .bool has, .int .i64 mo, .slice pa pn pc, .int .i64 nx, .int .i64 md, .int .i64 lc, .slice ra rn rc] 35)).alloc (.cells #[.int .i64 0, .int .i64 0, .int .i64 0, .int .i64 0, .int .i64 0, .int .i64 0, .slice none 0 0, .bool false, .bool false, .bool false] 40)) := ((((New.refl w).alloc _).alloc _).alloc _).alloc _
    go_enter Try.func41, Try.ntmps41
    go_wp2_with fail
    refine (implEnded st pe ho si sp _).mono ?_
    rintro e w3 ⟨g, v, rfl, hg, hl, hs, hn3⟩
    have hv : v = .slice none 0 0 := hs
    subst hv
    simp at hg
    have ne : ¬ w.heap.size + 1 + 1 + 1 = g := by omega
    have hg0 : w.heap.size ≤ g := by omega
    have ge2 : w.heap.size ≤ w.heap.size + 1 + 1 + 1 := by omega
    dsimp only [srC]
    have bR3 := bR0.new hn3
    have N3 := N0.trans hn3
    have cR := bR3.cells
    have fR := bR3.frees
    have lR := bR3.lt
    clear bR0 N0 hn3 hg
    go_wp2
    refine bodyPost_ret (v := .agg (srC 0 0 0 0 0 0 (.slice none 0 0) false (st == 3) false)) (by simp [results, Try.results41, go_sem, cR]) rfl ⟨w.heap.size, _, rfl, Nat.le_refl _, by simp [World.setCell]; omega, rfl, ?_⟩
    simp (disch := exact ge2) only [New.set5, N3]
  · rw [if_neg (by decide), if_neg (by decide), if_pos rfl]
    go_enter Try.func41, Try.ntmps41
    go_wp2
    refine bodyPost_ret (v := .agg (srC 0 3 pe ho si sp (.slice none 0 0) true false false)) (by simp [results, Try.results41, go_sem]) rfl ⟨w.heap.size, _, rfl, Nat.le_refl _, by simp; omega, rfl, ((((New.refl w).alloc _).alloc _).alloc _).alloc _⟩

set_option maxHeartbeats 1600000 in
theorem implHear3 (ca ci ch st pe ho si sp kd sa mh mi wh su : Int) (ga pa ra : Option Addr) (gn gc pn pc rn rc : Nat) (has : Bool) (mo nx md lc : Int) (w : World) (hk : 1 ≤ kd ∧ kd ≤ 4) : Calls Try.prog 43 #[.agg #[.int .i64 ca, .int .i64 ci, .int .i64 ch], .agg #[.int .i64 st, .int .i64 pe, .int .i64 ho, .int .i64 si, .int .i64 sp], .agg #[.int .i64 kd, .int .i64 sa, .int .i64 mh, .int .i64 mi, .int .i64 wh, .int .i64 su, .slice ga gn gc, .bool has, .int .i64 mo, .slice pa pn pc, .int .i64 nx, .int .i64 md, .int .i64 lc, .slice ra rn rc]] w (Ans w (if kd = 1 then failR st 6 7 else if kd = 3 then endR st else ⟨0, st, pe, ho, si, sp, none, false, false, kd == 2⟩)) := by
  rcases (show kd = 1 ∨ kd = 2 ∨ kd = 3 ∨ kd = 4 by omega) with rfl | rfl | rfl | rfl
  · rw [if_pos rfl]
    have bR0 : Blk ((((w.alloc (.cells #[.int .i64 ca, .int .i64 ci, .int .i64 ch] 25)).alloc (.cells #[.int .i64 st, .int .i64 pe, .int .i64 ho, .int .i64 si, .int .i64 sp] 27)).alloc (.cells #[.int .i64 1, .int .i64 sa, .int .i64 mh, .int .i64 mi, .int .i64 wh, .int .i64 su, .slice ga gn gc, .bool has, .int .i64 mo, .slice pa pn pc, .int .i64 nx, .int .i64 md, .int .i64 lc, .slice ra rn rc] 35)).alloc (.cells #[.int .i64 0, .int .i64 0, .int .i64 0, .int .i64 0, .int .i64 0, .int .i64 0, .slice none 0 0, .bool false, .bool false, .bool false] 40)) (w.heap.size + 1 + 1 + 1) 40 #[.int .i64 0, .int .i64 0, .int .i64 0, .int .i64 0, .int .i64 0, .int .i64 0, .slice none 0 0, .bool false, .bool false, .bool false] := Blk.mk _ _ _ _ (by simp)
    have N0 : New w ((((w.alloc (.cells #[.int .i64 ca, .int .i64 ci, .int .i64 ch] 25)).alloc (.cells #[.int .i64 st, .int .i64 pe, .int .i64 ho, .int .i64 si, .int .i64 sp] 27)).alloc (.cells #[.int .i64 1, .int .i64 sa, .int .i64 mh, .int .i64 mi, .int .i64 wh, .int .i64 su, .slice ga gn gc, .bool has, .int .i64 mo, .slice pa pn pc, .int .i64 nx, .int .i64 md, .int .i64 lc, .slice ra rn rc] 35)).alloc (.cells #[.int .i64 0, .int .i64 0, .int .i64 0, .int .i64 0, .int .i64 0, .int .i64 0, .slice none 0 0, .bool false, .bool false, .bool false] 40)) := ((((New.refl w).alloc _).alloc _).alloc _).alloc _
    go_enter Try.func43, Try.ntmps43
    go_wp2_with fail
    refine (implFailed st pe ho si sp 6 7 _).mono ?_
    rintro e w3 ⟨g, v, rfl, hg, hl, hs, hn3⟩
    obtain ⟨hv, hb⟩ := hs
    subst hv
    simp at hg
    have ne : ¬ w.heap.size + 1 + 1 + 1 = g := by omega
    have hg0 : w.heap.size ≤ g := by omega
    have ge2 : w.heap.size ≤ w.heap.size + 1 + 1 + 1 := by omega
    dsimp only [srC]
    have bR3 := bR0.new hn3
    have N3 := N0.trans hn3
    have cR := bR3.cells
    have fR := bR3.frees
    have lR := bR3.lt
    clear bR0 N0 hn3 hg
    go_wp2
    refine bodyPost_ret (v := .agg (srC 0 0 0 0 0 0 (.slice (some ⟨g, 0, none⟩) 1 1) false (st == 3) false)) (by simp [results, Try.results43, go_sem, cR]) rfl ⟨g, _, rfl, hg0, by simp [World.setCell]; omega, ⟨rfl, ?_⟩, ?_⟩
    · simp (disch := exact ne) only [Blk.set5]; exact hb
    simp (disch := exact ge2) only [New.set5, N3]
  · rw [if_neg (by decide), if_neg (by decide)]
    go_enter Try.func43, Try.ntmps43
    go_wp2
    refine bodyPost_ret (v := .agg (srC 0 st pe ho si sp (.slice none 0 0) false false true)) (by simp [results, Try.results43, go_sem]) rfl ⟨w.heap.size, _, rfl, Nat.le_refl _, by simp; omega, rfl, ((((New.refl w).alloc _).alloc _).alloc _).alloc _⟩
  · rw [if_neg (by decide), if_pos rfl]
    have bR0 : Blk ((((w.alloc (.cells #[.int .i64 ca, .int .i64 ci, .int .i64 ch] 25)).alloc (.cells #[.int .i64 st, .int .i64 pe, .int .i64 ho, .int .i64 si, .int .i64 sp] 27)).alloc (.cells #[.int .i64 3, .int .i64 sa, .int .i64 mh, .int .i64 mi, .int .i64 wh, .int .i64 su, .slice ga gn gc, .bool has, .int .i64 mo, .slice pa pn pc, .int .i64 nx, .int .i64 md, .int .i64 lc, .slice ra rn rc] 35)).alloc (.cells #[.int .i64 0, .int .i64 0, .int .i64 0, .int .i64 0, .int .i64 0, .int .i64 0, .slice none 0 0, .bool false, .bool false, .bool false] 40)) (w.heap.size + 1 + 1 + 1) 40 #[.int .i64 0, .int .i64 0, .int .i64 0, .int .i64 0, .int .i64 0, .int .i64 0, .slice none 0 0, .bool false, .bool false, .bool false] := Blk.mk _ _ _ _ (by simp)
    have N0 : New w ((((w.alloc (.cells #[.int .i64 ca, .int .i64 ci, .int .i64 ch] 25)).alloc (.cells #[.int .i64 st, .int .i64 pe, .int .i64 ho, .int .i64 si, .int .i64 sp] 27)).alloc (.cells #[.int .i64 3, .int .i64 sa, .int .i64 mh, .int .i64 mi, .int .i64 wh, .int .i64 su, .slice ga gn gc, .bool has, .int .i64 mo, .slice pa pn pc, .int .i64 nx, .int .i64 md, .int .i64 lc, .slice ra rn rc] 35)).alloc (.cells #[.int .i64 0, .int .i64 0, .int .i64 0, .int .i64 0, .int .i64 0, .int .i64 0, .slice none 0 0, .bool false, .bool false, .bool false] 40)) := ((((New.refl w).alloc _).alloc _).alloc _).alloc _
    go_enter Try.func43, Try.ntmps43
    go_wp2_with fail
    refine (implEnded st pe ho si sp _).mono ?_
    rintro e w3 ⟨g, v, rfl, hg, hl, hs, hn3⟩
    have hv : v = .slice none 0 0 := hs
    subst hv
    simp at hg
    have ne : ¬ w.heap.size + 1 + 1 + 1 = g := by omega
    have hg0 : w.heap.size ≤ g := by omega
    have ge2 : w.heap.size ≤ w.heap.size + 1 + 1 + 1 := by omega
    dsimp only [srC]
    have bR3 := bR0.new hn3
    have N3 := N0.trans hn3
    have cR := bR3.cells
    have fR := bR3.frees
    have lR := bR3.lt
    clear bR0 N0 hn3 hg
    go_wp2
    refine bodyPost_ret (v := .agg (srC 0 0 0 0 0 0 (.slice none 0 0) false (st == 3) false)) (by simp [results, Try.results43, go_sem, cR]) rfl ⟨w.heap.size, _, rfl, Nat.le_refl _, by simp [World.setCell]; omega, rfl, ?_⟩
    simp (disch := exact ge2) only [New.set5, N3]
  · rw [if_neg (by decide), if_neg (by decide)]
    go_enter Try.func43, Try.ntmps43
    go_wp2
    refine bodyPost_ret (v := .agg (srC 0 st pe ho si sp (.slice none 0 0) false false false)) (by simp [results, Try.results43, go_sem]) rfl ⟨w.heap.size, _, rfl, Nat.le_refl _, by simp; omega, rfl, ((((New.refl w).alloc _).alloc _).alloc _).alloc _⟩

end Go.Proofs.Yteniieagcehmpaa
