/- What is proved here: what StartSession, FailSession and StopSession answer, in the program and in the model, for every configuration, session and numbers. No condition. -/
import Derived.Test.YteniieagcehmpaaS5Ans
namespace Go.Proofs.Yteniieagcehmpaa
open Go.RowKit
set_option linter.unusedVariables false

/-- What StartSession answers. -/
def startR (ca ci ch st pe ho si sp : Int) : Rs :=
  if ask ca ci ch st pe ho si sp = 0 then (if st = 0 then ⟨0, 1, 0, 0, 0, 0, some (1, ca, ch, ci, 0, 0), false, false, false⟩ else badR 10) else badR (ask ca ci ch st pe ho si sp)
/-- What FailSession answers. -/
def failsR (ca ci ch st pe ho si sp wh su : Int) : Rs :=
  if ask ca ci ch st pe ho si sp = 0 then (if (1 ≤ wh ∧ wh ≤ 6) ∧ (0 ≤ su ∧ su ≤ 20) then (if st = 0 then sesR st pe ho si sp else failR st wh su) else badR 3) else badR (ask ca ci ch st pe ho si sp)

theorem Blk.set5 {w : World} {B : Nat} {t : TypeId} {cs : Array Value} {p : Addr} {u : Value} (hp : ¬ p.block = B) : Blk (w.setCell p u) B t cs ↔ Blk w B t cs := by
  unfold Blk
  rw [Below.heap_setCell w p u B (fun e => hp e.symm)]
theorem SayAt.set5 {w : World} {g : Nat} {v : Value} {say : Option (Int × Int × Int × Int × Int × Int)} {p : Addr} {u : Value} (hp : ¬ p.block = g) : SayAt (w.setCell p u) g v say ↔ SayAt w g v say := by
  cases say with
  | none => exact Iff.rfl
  | some m => exact and_congr_right (fun _ => Blk.set5 hp)

set_option maxHeartbeats 1600000 in
theorem implFails (ca ci ch st pe ho si sp wh su : Int) (w : World) : Calls Try.prog 29 #[.agg #[.int .i64 ca, .int .i64 ci, .int .i64 ch], .agg #[.int .i64 st, .int .i64 pe, .int .i64 ho, .int .i64 si, .int .i64 sp], .int .i64 wh, .int .i64 su] w (Ans w (failsR ca ci ch st pe ho si sp wh su)) := by
  have N0 : New w (((w.alloc (.cells #[.int .i64 ca, .int .i64 ci, .int .i64 ch] 25)).alloc (.cells #[.int .i64 st, .int .i64 pe, .int .i64 ho, .int .i64 si, .int .i64 sp] 27)).alloc (.cells #[.int .i64 0, .int .i64 0, .int .i64 0, .int .i64 0, .int .i64 0, .int .i64 0, .slice none 0 0, .bool false, .bool false, .bool false] 40)) := (((New.refl w).alloc _).alloc _).alloc _
  have bC0 : Blk (((w.alloc (.cells #[.int .i64 ca, .int .i64 ci, .int .i64 ch] 25)).alloc (.cells #[.int .i64 st, .int .i64 pe, .int .i64 ho, .int .i64 si, .int .i64 sp] 27)).alloc (.cells #[.int .i64 0, .int .i64 0, .int .i64 0, .int .i64 0, .int .i64 0, .int .i64 0, .slice none 0 0, .bool false, .bool false, .bool false] 40)) w.heap.size 25 #[.int .i64 ca, .int .i64 ci, .int .i64 ch] := ((Blk.mk _ _ _ _ rfl).alloc _).alloc _
  have bS0 : Blk (((w.alloc (.cells #[.int .i64 ca, .int .i64 ci, .int .i64 ch] 25)).alloc (.cells #[.int .i64 st, .int .i64 pe, .int .i64 ho, .int .i64 si, .int .i64 sp] 27)).alloc (.cells #[.int .i64 0, .int .i64 0, .int .i64 0, .int .i64 0, .int .i64 0, .int .i64 0, .slice none 0 0, .bool false, .bool false, .bool false] 40)) (w.heap.size + 1) 27 #[.int .i64 st, .int .i64 pe, .int .i64 ho, .int .i64 si, .int .i64 sp] := (Blk.mk _ _ _ _ (by simp)).alloc _
  have bR0 : Blk (((w.alloc (.cells #[.int .i64 ca, .int .i64 ci, .int .i64 ch] 25)).alloc (.cells #[.int .i64 st, .int .i64 pe, .int .i64 ho, .int .i64 si, .int .i64 sp] 27)).alloc (.cells #[.int .i64 0, .int .i64 0, .int .i64 0, .int .i64 0, .int .i64 0, .int .i64 0, .slice none 0 0, .bool false, .bool false, .bool false] 40)) (w.heap.size + 1 + 1) 40 #[.int .i64 0, .int .i64 0, .int .i64 0, .int .i64 0, .int .i64 0, .int .i64 0, .slice none 0 0, .bool false, .bool false, .bool false] := Blk.mk _ _ _ _ (by simp)
  have ge2 : w.heap.size ≤ w.heap.size + 1 + 1 := by omega
  by_cases h0 : ask ca ci ch st pe ho si sp = 0
  case neg =>
    have hx : failsR ca ci ch st pe ho si sp wh su = badR (ask ca ci ch st pe ho si sp) := if_neg h0
    rw [hx]
    clear hx
    have h1 : (ask ca ci ch st pe ho si sp != 0) = true := by simpa using h0
    go_enter Try.func29, Try.ntmps29
    go_wp2_with fail
    refine (implAsk ca ci ch st pe ho si sp _).mono ?_
    rintro e w1 ⟨rfl, hn1⟩
    have bC1 := bC0.new hn1
    have bS1 := bS0.new hn1
    have bR1 := bR0.new hn1
    have N1 := N0.trans hn1
    have cC := bC1.cells
    have cS := bS1.cells
    have cR := bR1.cells
    have fR := bR1.frees
    have lR := bR1.lt
    have l1 : w.heap.size < w1.heap.size := by omega
    have l2 : w.heap.size + 1 < w1.heap.size := by omega
    clear bC0 bS0 bR0 N0 hn1
    generalize ask ca ci ch st pe ho si sp = k at *
    go_wp2
    refine bodyPost_ret (v := .agg (srC k 0 0 0 0 0 (.slice none 0 0) false false false)) (by simp [results, Try.results29, go_sem, cR]) rfl ⟨w.heap.size, _, rfl, Nat.le_refl _, by simp [World.setCell]; omega, rfl, ?_⟩
    simp (disch := exact ge2) only [New.set5, N1]
  have hx : failsR ca ci ch st pe ho si sp wh su = if (1 ≤ wh ∧ wh ≤ 6) ∧ (0 ≤ su ∧ su ≤ 20) then (if st = 0 then sesR st pe ho si sp else failR st wh su) else badR 3 := if_pos h0
  rw [hx]
  clear hx
  by_cases g0 : 1 ≤ wh ∧ wh ≤ 6
  case neg =>
    rw [if_neg (fun k => g0 k.1)]
    go_enter Try.func29, Try.ntmps29
    go_wp2_with fail
    refine (implAsk ca ci ch st pe ho si sp _).mono ?_
    rintro e w1 ⟨rfl, hn1⟩
    have bC1 := bC0.new hn1
    have bS1 := bS0.new hn1
    have bR1 := bR0.new hn1
    have N1 := N0.trans hn1
    have cC := bC1.cells
    have cS := bS1.cells
    have cR := bR1.cells
    have fR := bR1.frees
    have lR := bR1.lt
    have l1 : w.heap.size < w1.heap.size := by omega
    have l2 : w.heap.size + 1 < w1.heap.size := by omega
    clear bC0 bS0 bR0 N0 hn1
    rw [h0]
    clear h0
    go_wp2_with fail
    refine (why5_no wh _ g0).mono ?_
    rintro e w9 ⟨rfl, rfl⟩
    go_wp2
    refine bodyPost_ret (v := .agg (srC 3 0 0 0 0 0 (.slice none 0 0) false false false)) (by simp [results, Try.results29, go_sem, cR]) rfl ⟨w.heap.size, _, rfl, Nat.le_refl _, by simp [World.setCell]; omega, rfl, ?_⟩
    simp (disch := exact ge2) only [New.set5, N1]
  by_cases g1 : 0 ≤ su ∧ su ≤ 20
  case neg =>
    rw [if_neg (fun k => g1 k.2)]
    go_enter Try.func29, Try.ntmps29
    go_wp2_with fail
    refine (implAsk ca ci ch st pe ho si sp _).mono ?_
    rintro e w1 ⟨rfl, hn1⟩
    have bC1 := bC0.new hn1
    have bS1 := bS0.new hn1
    have bR1 := bR0.new hn1
    have N1 := N0.trans hn1
    have cC := bC1.cells
    have cS := bS1.cells
    have cR := bR1.cells
    have fR := bR1.frees
    have lR := bR1.lt
    have l1 : w.heap.size < w1.heap.size := by omega
    have l2 : w.heap.size + 1 < w1.heap.size := by omega
    clear bC0 bS0 bR0 N0 hn1
    rw [h0]
    clear h0
    go_wp2_with fail
    refine (why5_yes wh _ g0).mono ?_
    rintro e w9 ⟨rfl, rfl⟩
    go_wp2_with fail
    refine (sub5_no su _ g1).mono ?_
    rintro e w9 ⟨rfl, rfl⟩
    go_wp2
    refine bodyPost_ret (v := .agg (srC 3 0 0 0 0 0 (.slice none 0 0) false false false)) (by simp [results, Try.results29, go_sem, cR]) rfl ⟨w.heap.size, _, rfl, Nat.le_refl _, by simp [World.setCell]; omega, rfl, ?_⟩
    simp (disch := exact ge2) only [New.set5, N1]
  rw [if_pos ⟨g0, g1⟩]
  by_cases t0 : st = 0
  case pos =>
    subst t0
    rw [if_pos rfl]
    go_enter Try.func29, Try.ntmps29
    go_wp2_with fail
    refine (implAsk ca ci ch _ pe ho si sp _).mono ?_
    rintro e w1 ⟨rfl, hn1⟩
    have bC1 := bC0.new hn1
    have bS1 := bS0.new hn1
    have bR1 := bR0.new hn1
    have N1 := N0.trans hn1
    have cC := bC1.cells
    have cS := bS1.cells
    have cR := bR1.cells
    have fR := bR1.frees
    have lR := bR1.lt
    have l1 : w.heap.size < w1.heap.size := by omega
    have l2 : w.heap.size + 1 < w1.heap.size := by omega
    clear bC0 bS0 bR0 N0 hn1
    rw [h0]
    clear h0
    go_wp2_with fail
    refine (why5_yes wh _ g0).mono ?_
    rintro e w9 ⟨rfl, rfl⟩
    go_wp2_with fail
    refine (sub5_yes su _ g1).mono ?_
    rintro e w9 ⟨rfl, rfl⟩
    go_wp2
    refine bodyPost_ret (v := .agg (srC 0 0 pe ho si sp (.slice none 0 0) false false false)) (by simp [results, Try.results29, go_sem, cR]) rfl ⟨w.heap.size, _, rfl, Nat.le_refl _, by simp [World.setCell]; omega, rfl, ?_⟩
    simp (disch := exact ge2) only [New.set5, N1]
  rw [if_neg t0]
  have z0 : (st == 0) = false := by simpa using t0
  go_enter Try.func29, Try.ntmps29
  go_wp2_with fail
  refine (implAsk ca ci ch st pe ho si sp _).mono ?_
  rintro e w1 ⟨rfl, hn1⟩
  have bC1 := bC0.new hn1
  have bS1 := bS0.new hn1
  have bR1 := bR0.new hn1
  have N1 := N0.trans hn1
  have cC := bC1.cells
  have cS := bS1.cells
  have cR := bR1.cells
  have fR := bR1.frees
  have lR := bR1.lt
  have l1 : w.heap.size < w1.heap.size := by omega
  have l2 : w.heap.size + 1 < w1.heap.size := by omega
  clear bC0 bS0 bR0 N0 hn1
  rw [h0]
  clear h0
  go_wp2_with fail
  refine (why5_yes wh _ g0).mono ?_
  rintro e w9 ⟨rfl, rfl⟩
  go_wp2_with fail
  refine (sub5_yes su _ g1).mono ?_
  rintro e w9 ⟨rfl, rfl⟩
  go_wp2_with fail
  refine (implFailed st pe ho si sp wh su _ ).mono ?_
  rintro e w2 ⟨g, v, rfl, hg, hl, hs, hn2⟩
  obtain ⟨hv, hb⟩ := hs
  subst hv
  have ne : ¬ w.heap.size + 1 + 1 = g := by omega
  have hg0 : w.heap.size ≤ g := by omega
  dsimp only [srC]
  clear cC cS cR fR lR l1 l2
  have bC2 := bC1.new hn2
  have bS2 := bS1.new hn2
  have bR2 := bR1.new hn2
  have N2 := N1.trans hn2
  have cC := bC2.cells
  have cS := bS2.cells
  have cR := bR2.cells
  have fR := bR2.frees
  have lR := bR2.lt
  have l1 : w.heap.size < w2.heap.size := by omega
  have l2 : w.heap.size + 1 < w2.heap.size := by omega
  clear bC1 bS1 bR1 N1 hn2
  go_wp2
  refine bodyPost_ret (v := .agg (srC 0 0 0 0 0 0 (.slice (some ⟨g, 0, none⟩) 1 1) false (st == 3) false)) (by simp [results, Try.results29, go_sem, cR]) rfl ⟨g, _, rfl, hg0, by simp [World.setCell]; omega, ⟨rfl, ?_⟩, ?_⟩
  · simp (disch := exact ne) only [Blk.set5]; exact hb
  simp (disch := exact ge2) only [New.set5, N2]

set_option maxHeartbeats 1600000 in
theorem implStop (ca ci ch st pe ho si sp  : Int) (w : World) : Calls Try.prog 10 #[.agg #[.int .i64 ca, .int .i64 ci, .int .i64 ch], .agg #[.int .i64 st, .int .i64 pe, .int .i64 ho, .int .i64 si, .int .i64 sp]] w (Ans w (failsR ca ci ch st pe ho si sp 6 2)) := by
  have N0 : New w (((w.alloc (.cells #[.int .i64 ca, .int .i64 ci, .int .i64 ch] 25)).alloc (.cells #[.int .i64 st, .int .i64 pe, .int .i64 ho, .int .i64 si, .int .i64 sp] 27)).alloc (.cells #[.int .i64 0, .int .i64 0, .int .i64 0, .int .i64 0, .int .i64 0, .int .i64 0, .slice none 0 0, .bool false, .bool false, .bool false] 40)) := (((New.refl w).alloc _).alloc _).alloc _
  have bC0 : Blk (((w.alloc (.cells #[.int .i64 ca, .int .i64 ci, .int .i64 ch] 25)).alloc (.cells #[.int .i64 st, .int .i64 pe, .int .i64 ho, .int .i64 si, .int .i64 sp] 27)).alloc (.cells #[.int .i64 0, .int .i64 0, .int .i64 0, .int .i64 0, .int .i64 0, .int .i64 0, .slice none 0 0, .bool false, .bool false, .bool false] 40)) w.heap.size 25 #[.int .i64 ca, .int .i64 ci, .int .i64 ch] := ((Blk.mk _ _ _ _ rfl).alloc _).alloc _
  have bS0 : Blk (((w.alloc (.cells #[.int .i64 ca, .int .i64 ci, .int .i64 ch] 25)).alloc (.cells #[.int .i64 st, .int .i64 pe, .int .i64 ho, .int .i64 si, .int .i64 sp] 27)).alloc (.cells #[.int .i64 0, .int .i64 0, .int .i64 0, .int .i64 0, .int .i64 0, .int .i64 0, .slice none 0 0, .bool false, .bool false, .bool false] 40)) (w.heap.size + 1) 27 #[.int .i64 st, .int .i64 pe, .int .i64 ho, .int .i64 si, .int .i64 sp] := (Blk.mk _ _ _ _ (by simp)).alloc _
  have bR0 : Blk (((w.alloc (.cells #[.int .i64 ca, .int .i64 ci, .int .i64 ch] 25)).alloc (.cells #[.int .i64 st, .int .i64 pe, .int .i64 ho, .int .i64 si, .int .i64 sp] 27)).alloc (.cells #[.int .i64 0, .int .i64 0, .int .i64 0, .int .i64 0, .int .i64 0, .int .i64 0, .slice none 0 0, .bool false, .bool false, .bool false] 40)) (w.heap.size + 1 + 1) 40 #[.int .i64 0, .int .i64 0, .int .i64 0, .int .i64 0, .int .i64 0, .int .i64 0, .slice none 0 0, .bool false, .bool false, .bool false] := Blk.mk _ _ _ _ (by simp)
  have ge2 : w.heap.size ≤ w.heap.size + 1 + 1 := by omega
  go_enter Try.func10, Try.ntmps10
  go_wp2_with fail
  refine (implFails ca ci ch st pe ho si sp 6 2 _).mono ?_
  rintro e w1 ⟨g, v, rfl, hg, hl, hs, hn1⟩
  obtain ⟨a, hv⟩ := hs.form
  generalize failsR ca ci ch st pe ho si sp 6 2 = r at *
  obtain ⟨c, rt, rp, rh, ri, rs, say, up, dn, ud⟩ := r
  dsimp only [srC] at *
  generalize sayN say = n at *
  subst hv
  have bC1 := bC0.new hn1
  have bS1 := bS0.new hn1
  have bR1 := bR0.new hn1
  have N1 := N0.trans hn1
  have cC := bC1.cells
  have cS := bS1.cells
  have cR := bR1.cells
  have fR := bR1.frees
  have lR := bR1.lt
  have l1 : w.heap.size < w1.heap.size := by omega
  have l2 : w.heap.size + 1 < w1.heap.size := by omega
  clear bC0 bS0 bR0 N0 hn1
  have ne : ¬ w.heap.size + 1 + 1 = g := by simp at hg; omega
  have hg0 : w.heap.size ≤ g := by simp at hg; omega
  clear hg
  go_wp2
  refine bodyPost_ret (v := .agg (srC c rt rp rh ri rs (.slice a n n) up dn ud)) (by simp [results, Try.results10, go_sem, cR]) rfl ⟨g, _, rfl, hg0, by simp [World.setCell]; omega, ?_, ?_⟩
  · simp (disch := exact ne) only [SayAt.set5]; exact hs
  simp (disch := exact ge2) only [New.set5, N1]

end Go.Proofs.Yteniieagcehmpaa
