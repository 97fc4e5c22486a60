/- What is proved here: what the ticks of the states, the table of states and the deferred count answer, in the program. No condition but the bounds of a session. -/
import Derived.Test.YteniieagcehmpaaS5Sta
import Derived.Defers
import Derived.Laws.EntriesVeiled
import Derived.Deep.RegionHeld3
import Derived.Deep.CutRange
namespace Go.Proofs.Yteniieagcehmpaa
open Go.RowKit
set_option linter.unusedVariables false

theorem blk5 {w : World} {B : Nat} {t : TypeId} {z0 z1 z2 z3 z4 : Value} (c0 c1 c2 c3 c4 : Value) (h : Blk w B t #[z0, z1, z2, z3, z4]) :
    Blk (((((w.setCell ⟨B, 0, none⟩ c0).setCell ⟨B, 1, none⟩ c1).setCell ⟨B, 2, none⟩ c2).setCell ⟨B, 3, none⟩ c3).setCell ⟨B, 4, none⟩ c4) B t #[c0, c1, c2, c3, c4] := by
  have h9 := ((((h.set 0 c0).set 1 c1).set 2 c2).set 3 c3).set 4 c4
  simp only [List.setIfInBounds_toArray, List.set_cons_zero, List.set_cons_succ] at h9
  exact h9

/-- What a session that has a peer answers to a tick, its counts gone on already. -/
def openedR (st pe ho x y : Int) : Rs :=
  if ho = 0 then sesR st pe ho x y else if ho ≤ x then failR st 4 0 else if (if ho < 6 then 1 else 3) ≤ y then keepR st pe ho x y else sesR st pe ho x y
/-- What a session that waits answers to a tick, its counts gone on already. -/
def sentR (st pe ho x y : Int) : Rs := if x = 50 then failR st 4 0 else sesR st pe ho x y

set_option maxHeartbeats 1600000 in
theorem implSentT (st pe ho si sp : Int) (w : World) (h1 : 0 ≤ si ∧ si ≤ 1000) (h2 : 0 ≤ sp ∧ sp ≤ 1000) : Calls Try.prog 40 #[.agg #[.int .i64 st, .int .i64 pe, .int .i64 ho, .int .i64 si, .int .i64 sp]] w (Ans w (sentR st pe ho (tk si) (tk sp))) := by
  have N0 : New w ((w.alloc (.cells #[.int .i64 st, .int .i64 pe, .int .i64 ho, .int .i64 si, .int .i64 sp] 27)).alloc (.cells #[.int .i64 0, .int .i64 0, .int .i64 0, .int .i64 0, .int .i64 0, .int .i64 0, .slice none 0 0, .bool false, .bool false, .bool false] 40)) := ((New.refl w).alloc _).alloc _
  have bS0 : Blk ((w.alloc (.cells #[.int .i64 st, .int .i64 pe, .int .i64 ho, .int .i64 si, .int .i64 sp] 27)).alloc (.cells #[.int .i64 0, .int .i64 0, .int .i64 0, .int .i64 0, .int .i64 0, .int .i64 0, .slice none 0 0, .bool false, .bool false, .bool false] 40)) w.heap.size 27 #[.int .i64 st, .int .i64 pe, .int .i64 ho, .int .i64 si, .int .i64 sp] := (Blk.mk _ _ _ _ rfl).alloc _
  have bR0 : Blk ((w.alloc (.cells #[.int .i64 st, .int .i64 pe, .int .i64 ho, .int .i64 si, .int .i64 sp] 27)).alloc (.cells #[.int .i64 0, .int .i64 0, .int .i64 0, .int .i64 0, .int .i64 0, .int .i64 0, .slice none 0 0, .bool false, .bool false, .bool false] 40)) (w.heap.size + 1) 40 #[.int .i64 0, .int .i64 0, .int .i64 0, .int .i64 0, .int .i64 0, .int .i64 0, .slice none 0 0, .bool false, .bool false, .bool false] := Blk.mk _ _ _ _ (by simp)
  have hO : Hid (∀ W, Calls Try.prog 67 #[.agg #[.int .i64 st, .int .i64 pe, .int .i64 ho, .int .i64 si, .int .i64 sp]] W fun e w' => e = .returned (.agg #[.int .i64 st, .int .i64 pe, .int .i64 ho, .int .i64 (tk si), .int .i64 (tk sp)]) ∧ New W w') := fun W => implOne st pe ho si sp W h1 h2
  generalize tk si = x at *
  generalize tk sp = y at *
  clear h1 h2
  by_cases t0 : x = 50
  case pos =>
    rw [show sentR st pe ho x y = failR st 4 0 from if_pos t0]
    subst t0
    go_enter Try.func40, Try.ntmps40
    go_wp2_with fail
    refine (hO.out _).mono ?_
    rintro e w1 ⟨rfl, hn1⟩
    have bS1 := bS0.new hn1
    have bR1 := bR0.new hn1
    have N1 := N0.trans hn1
    have cS := bS1.cells
    have fS := bS1.frees
    have lS := bS1.lt
    have lR := bR1.lt
    clear bS0 bR0 N0 hn1 hO
    go_upto_region 2 with fail
    have bS2 : Blk (((((w1.setCell ⟨w.heap.size, 0, none⟩ (.int .i64 st)).setCell ⟨w.heap.size, 1, none⟩ (.int .i64 pe)).setCell ⟨w.heap.size, 2, none⟩ (.int .i64 ho)).setCell ⟨w.heap.size, 3, none⟩ (.int .i64 50)).setCell ⟨w.heap.size, 4, none⟩ (.int .i64 y)) w.heap.size 27 #[.int .i64 st, .int .i64 pe, .int .i64 ho, .int .i64 50, .int .i64 y] := blk5 _ _ _ _ _ bS1
    have ne1 : ¬ w.heap.size = w.heap.size + 1 := by omega
    have bR2 : Blk (((((w1.setCell ⟨w.heap.size, 0, none⟩ (.int .i64 st)).setCell ⟨w.heap.size, 1, none⟩ (.int .i64 pe)).setCell ⟨w.heap.size, 2, none⟩ (.int .i64 ho)).setCell ⟨w.heap.size, 3, none⟩ (.int .i64 50)).setCell ⟨w.heap.size, 4, none⟩ (.int .i64 y)) (w.heap.size + 1) 40 #[.int .i64 0, .int .i64 0, .int .i64 0, .int .i64 0, .int .i64 0, .int .i64 0, .slice none 0 0, .bool false, .bool false, .bool false] := by simp (disch := exact ne1) only [Blk.set5]; exact bR1
    have ge0 : w.heap.size ≤ w.heap.size := Nat.le_refl _
    have ge2 : w.heap.size ≤ w.heap.size + 1 := Nat.le_succ _
    have N2 : New w (((((w1.setCell ⟨w.heap.size, 0, none⟩ (.int .i64 st)).setCell ⟨w.heap.size, 1, none⟩ (.int .i64 pe)).setCell ⟨w.heap.size, 2, none⟩ (.int .i64 ho)).setCell ⟨w.heap.size, 3, none⟩ (.int .i64 50)).setCell ⟨w.heap.size, 4, none⟩ (.int .i64 y)) := by simp (disch := exact ge0) only [New.set5]; exact N1
    clear cS fS lS lR bS1 bR1 N1
    generalize (((((w1.setCell ⟨w.heap.size, 0, none⟩ (.int .i64 st)).setCell ⟨w.heap.size, 1, none⟩ (.int .i64 pe)).setCell ⟨w.heap.size, 2, none⟩ (.int .i64 ho)).setCell ⟨w.heap.size, 3, none⟩ (.int .i64 50)).setCell ⟨w.heap.size, 4, none⟩ (.int .i64 y)) = w2 at *
    have cS := bS2.cells
    have cR := bR2.cells
    have fR := bR2.frees
    have lR := bR2.lt
    have l1 : w.heap.size < w2.heap.size := by omega
    go_wp2_with fail
    refine (implFailed st pe ho 50 y 4 0 _).mono ?_
    rintro e w3 ⟨g, v, rfl, hg, hl, hs, hn3⟩
    obtain ⟨hv, hb⟩ := hs
    subst hv
    have ne : ¬ w.heap.size + 1 = g := by omega
    have hg0 : w.heap.size ≤ g := by omega
    dsimp only [srC]
    clear cS cR fR lR l1
    have bR3 := bR2.new hn3
    have N3 := N2.trans hn3
    have cR := bR3.cells
    have fR := bR3.frees
    have lR := bR3.lt
    clear bS2 bR2 N2 hn3 hg
    go_wp2
    refine bodyPost_ret (v := .agg (srC 0 0 0 0 0 0 (.slice (some ⟨g, 0, none⟩) 1 1) false (st == 3) false)) (by simp [results, Try.results40, go_sem, cR]) rfl ⟨g, _, rfl, hg0, by simp [World.setCell]; omega, ⟨rfl, ?_⟩, ?_⟩
    · simp (disch := exact ne) only [Blk.set5]; exact hb
    simp (disch := exact ge2) only [New.set5, N3]
  rw [show sentR st pe ho x y = sesR st pe ho x y from if_neg t0]
  have z0 : (x == 50) = false := by simpa using t0
  go_enter Try.func40, Try.ntmps40
  go_wp2_with fail
  refine (hO.out _).mono ?_
  rintro e w1 ⟨rfl, hn1⟩
  have bS1 := bS0.new hn1
  have bR1 := bR0.new hn1
  have N1 := N0.trans hn1
  have cS := bS1.cells
  have fS := bS1.frees
  have lS := bS1.lt
  have lR := bR1.lt
  clear bS0 bR0 N0 hn1 hO
  go_upto_region 2 with fail
  have bS2 : Blk (((((w1.setCell ⟨w.heap.size, 0, none⟩ (.int .i64 st)).setCell ⟨w.heap.size, 1, none⟩ (.int .i64 pe)).setCell ⟨w.heap.size, 2, none⟩ (.int .i64 ho)).setCell ⟨w.heap.size, 3, none⟩ (.int .i64 x)).setCell ⟨w.heap.size, 4, none⟩ (.int .i64 y)) w.heap.size 27 #[.int .i64 st, .int .i64 pe, .int .i64 ho, .int .i64 x, .int .i64 y] := blk5 _ _ _ _ _ bS1
  have ne1 : ¬ w.heap.size = w.heap.size + 1 := by omega
  have bR2 : Blk (((((w1.setCell ⟨w.heap.size, 0, none⟩ (.int .i64 st)).setCell ⟨w.heap.size, 1, none⟩ (.int .i64 pe)).setCell ⟨w.heap.size, 2, none⟩ (.int .i64 ho)).setCell ⟨w.heap.size, 3, none⟩ (.int .i64 x)).setCell ⟨w.heap.size, 4, none⟩ (.int .i64 y)) (w.heap.size + 1) 40 #[.int .i64 0, .int .i64 0, .int .i64 0, .int .i64 0, .int .i64 0, .int .i64 0, .slice none 0 0, .bool false, .bool false, .bool false] := by simp (disch := exact ne1) only [Blk.set5]; exact bR1
  have ge0 : w.heap.size ≤ w.heap.size := Nat.le_refl _
  have ge2 : w.heap.size ≤ w.heap.size + 1 := Nat.le_succ _
  have N2 : New w (((((w1.setCell ⟨w.heap.size, 0, none⟩ (.int .i64 st)).setCell ⟨w.heap.size, 1, none⟩ (.int .i64 pe)).setCell ⟨w.heap.size, 2, none⟩ (.int .i64 ho)).setCell ⟨w.heap.size, 3, none⟩ (.int .i64 x)).setCell ⟨w.heap.size, 4, none⟩ (.int .i64 y)) := by simp (disch := exact ge0) only [New.set5]; exact N1
  clear cS fS lS lR bS1 bR1 N1
  generalize (((((w1.setCell ⟨w.heap.size, 0, none⟩ (.int .i64 st)).setCell ⟨w.heap.size, 1, none⟩ (.int .i64 pe)).setCell ⟨w.heap.size, 2, none⟩ (.int .i64 ho)).setCell ⟨w.heap.size, 3, none⟩ (.int .i64 x)).setCell ⟨w.heap.size, 4, none⟩ (.int .i64 y)) = w2 at *
  have cS := bS2.cells
  have cR := bR2.cells
  have fR := bR2.frees
  have lR := bR2.lt
  have l1 : w.heap.size < w2.heap.size := by omega
  go_wp2
  refine bodyPost_ret (v := .agg (srC 0 st pe ho x y (.slice none 0 0) false false false)) (by simp [results, Try.results40, go_sem, cR]) rfl ⟨w.heap.size, _, rfl, Nat.le_refl _, by simp [World.setCell]; omega, rfl, ?_⟩
  simp (disch := exact ge2) only [New.set5, N2]

set_option maxHeartbeats 1600000 in
theorem implOpenT (st pe ho si sp : Int) (w : World) (h1 : 0 ≤ si ∧ si ≤ 1000) (h2 : 0 ≤ sp ∧ sp ≤ 1000) : Calls Try.prog 42 #[.agg #[.int .i64 st, .int .i64 pe, .int .i64 ho, .int .i64 si, .int .i64 sp]] w (Ans w (openedR st pe ho (tk si) (tk sp))) := by
  have N0 : New w ((w.alloc (.cells #[.int .i64 st, .int .i64 pe, .int .i64 ho, .int .i64 si, .int .i64 sp] 27)).alloc (.cells #[.int .i64 0, .int .i64 0, .int .i64 0, .int .i64 0, .int .i64 0, .int .i64 0, .slice none 0 0, .bool false, .bool false, .bool false] 40)) := ((New.refl w).alloc _).alloc _
  have bS0 : Blk ((w.alloc (.cells #[.int .i64 st, .int .i64 pe, .int .i64 ho, .int .i64 si, .int .i64 sp] 27)).alloc (.cells #[.int .i64 0, .int .i64 0, .int .i64 0, .int .i64 0, .int .i64 0, .int .i64 0, .slice none 0 0, .bool false, .bool false, .bool false] 40)) w.heap.size 27 #[.int .i64 st, .int .i64 pe, .int .i64 ho, .int .i64 si, .int .i64 sp] := (Blk.mk _ _ _ _ rfl).alloc _
  have bR0 : Blk ((w.alloc (.cells #[.int .i64 st, .int .i64 pe, .int .i64 ho, .int .i64 si, .int .i64 sp] 27)).alloc (.cells #[.int .i64 0, .int .i64 0, .int .i64 0, .int .i64 0, .int .i64 0, .int .i64 0, .slice none 0 0, .bool false, .bool false, .bool false] 40)) (w.heap.size + 1) 40 #[.int .i64 0, .int .i64 0, .int .i64 0, .int .i64 0, .int .i64 0, .int .i64 0, .slice none 0 0, .bool false, .bool false, .bool false] := Blk.mk _ _ _ _ (by simp)
  have hO : Hid (∀ W, Calls Try.prog 67 #[.agg #[.int .i64 st, .int .i64 pe, .int .i64 ho, .int .i64 si, .int .i64 sp]] W fun e w' => e = .returned (.agg #[.int .i64 st, .int .i64 pe, .int .i64 ho, .int .i64 (tk si), .int .i64 (tk sp)]) ∧ New W w') := fun W => implOne st pe ho si sp W h1 h2
  generalize tk si = x at *
  generalize tk sp = y at *
  clear h1 h2
  by_cases t0 : ho = 0
  case pos =>
    rw [show openedR st pe ho x y = sesR st pe ho x y from if_pos t0]
    subst t0
    go_enter Try.func42, Try.ntmps42
    go_wp2_with fail
    refine (hO.out _).mono ?_
    rintro e w1 ⟨rfl, hn1⟩
    have bS1 := bS0.new hn1
    have bR1 := bR0.new hn1
    have N1 := N0.trans hn1
    have cS := bS1.cells
    have fS := bS1.frees
    have lS := bS1.lt
    have lR := bR1.lt
    clear bS0 bR0 N0 hn1 hO
    go_upto_region 2 with fail
    have bS2 : Blk (((((w1.setCell ⟨w.heap.size, 0, none⟩ (.int .i64 st)).setCell ⟨w.heap.size, 1, none⟩ (.int .i64 pe)).setCell ⟨w.heap.size, 2, none⟩ (.int .i64 0)).setCell ⟨w.heap.size, 3, none⟩ (.int .i64 x)).setCell ⟨w.heap.size, 4, none⟩ (.int .i64 y)) w.heap.size 27 #[.int .i64 st, .int .i64 pe, .int .i64 0, .int .i64 x, .int .i64 y] := blk5 _ _ _ _ _ bS1
    have ne1 : ¬ w.heap.size = w.heap.size + 1 := by omega
    have bR2 : Blk (((((w1.setCell ⟨w.heap.size, 0, none⟩ (.int .i64 st)).setCell ⟨w.heap.size, 1, none⟩ (.int .i64 pe)).setCell ⟨w.heap.size, 2, none⟩ (.int .i64 0)).setCell ⟨w.heap.size, 3, none⟩ (.int .i64 x)).setCell ⟨w.heap.size, 4, none⟩ (.int .i64 y)) (w.heap.size + 1) 40 #[.int .i64 0, .int .i64 0, .int .i64 0, .int .i64 0, .int .i64 0, .int .i64 0, .slice none 0 0, .bool false, .bool false, .bool false] := by simp (disch := exact ne1) only [Blk.set5]; exact bR1
    have ge0 : w.heap.size ≤ w.heap.size := Nat.le_refl _
    have ge2 : w.heap.size ≤ w.heap.size + 1 := Nat.le_succ _
    have N2 : New w (((((w1.setCell ⟨w.heap.size, 0, none⟩ (.int .i64 st)).setCell ⟨w.heap.size, 1, none⟩ (.int .i64 pe)).setCell ⟨w.heap.size, 2, none⟩ (.int .i64 0)).setCell ⟨w.heap.size, 3, none⟩ (.int .i64 x)).setCell ⟨w.heap.size, 4, none⟩ (.int .i64 y)) := by simp (disch := exact ge0) only [New.set5]; exact N1
    clear cS fS lS lR bS1 bR1 N1
    generalize (((((w1.setCell ⟨w.heap.size, 0, none⟩ (.int .i64 st)).setCell ⟨w.heap.size, 1, none⟩ (.int .i64 pe)).setCell ⟨w.heap.size, 2, none⟩ (.int .i64 0)).setCell ⟨w.heap.size, 3, none⟩ (.int .i64 x)).setCell ⟨w.heap.size, 4, none⟩ (.int .i64 y)) = w2 at *
    have cS := bS2.cells
    have cR := bR2.cells
    have fR := bR2.frees
    have lR := bR2.lt
    have l1 : w.heap.size < w2.heap.size := by omega
    go_wp2
    refine bodyPost_ret (v := .agg (srC 0 st pe 0 x y (.slice none 0 0) false false false)) (by simp [results, Try.results42, go_sem, cR]) rfl ⟨w.heap.size, _, rfl, Nat.le_refl _, by simp [World.setCell]; omega, rfl, ?_⟩
    simp (disch := exact ge2) only [New.set5, N2]
  have z0 : (ho == 0) = false := by simpa using t0
  have hx : openedR st pe ho x y = if ho ≤ x then failR st 4 0 else if (if ho < 6 then 1 else 3) ≤ y then keepR st pe ho x y else sesR st pe ho x y := if_neg t0
  rw [hx]
  clear hx
  by_cases t1 : ho ≤ x
  case pos =>
    rw [if_pos t1]
    go_enter Try.func42, Try.ntmps42
    go_wp2_with fail
    refine (hO.out _).mono ?_
    rintro e w1 ⟨rfl, hn1⟩
    have bS1 := bS0.new hn1
    have bR1 := bR0.new hn1
    have N1 := N0.trans hn1
    have cS := bS1.cells
    have fS := bS1.frees
    have lS := bS1.lt
    have lR := bR1.lt
    clear bS0 bR0 N0 hn1 hO
    go_upto_region 2 with fail
    have bS2 : Blk (((((w1.setCell ⟨w.heap.size, 0, none⟩ (.int .i64 st)).setCell ⟨w.heap.size, 1, none⟩ (.int .i64 pe)).setCell ⟨w.heap.size, 2, none⟩ (.int .i64 ho)).setCell ⟨w.heap.size, 3, none⟩ (.int .i64 x)).setCell ⟨w.heap.size, 4, none⟩ (.int .i64 y)) w.heap.size 27 #[.int .i64 st, .int .i64 pe, .int .i64 ho, .int .i64 x, .int .i64 y] := blk5 _ _ _ _ _ bS1
    have ne1 : ¬ w.heap.size = w.heap.size + 1 := by omega
    have bR2 : Blk (((((w1.setCell ⟨w.heap.size, 0, none⟩ (.int .i64 st)).setCell ⟨w.heap.size, 1, none⟩ (.int .i64 pe)).setCell ⟨w.heap.size, 2, none⟩ (.int .i64 ho)).setCell ⟨w.heap.size, 3, none⟩ (.int .i64 x)).setCell ⟨w.heap.size, 4, none⟩ (.int .i64 y)) (w.heap.size + 1) 40 #[.int .i64 0, .int .i64 0, .int .i64 0, .int .i64 0, .int .i64 0, .int .i64 0, .slice none 0 0, .bool false, .bool false, .bool false] := by simp (disch := exact ne1) only [Blk.set5]; exact bR1
    have ge0 : w.heap.size ≤ w.heap.size := Nat.le_refl _
    have ge2 : w.heap.size ≤ w.heap.size + 1 := Nat.le_succ _
    have N2 : New w (((((w1.setCell ⟨w.heap.size, 0, none⟩ (.int .i64 st)).setCell ⟨w.heap.size, 1, none⟩ (.int .i64 pe)).setCell ⟨w.heap.size, 2, none⟩ (.int .i64 ho)).setCell ⟨w.heap.size, 3, none⟩ (.int .i64 x)).setCell ⟨w.heap.size, 4, none⟩ (.int .i64 y)) := by simp (disch := exact ge0) only [New.set5]; exact N1
    clear cS fS lS lR bS1 bR1 N1
    generalize (((((w1.setCell ⟨w.heap.size, 0, none⟩ (.int .i64 st)).setCell ⟨w.heap.size, 1, none⟩ (.int .i64 pe)).setCell ⟨w.heap.size, 2, none⟩ (.int .i64 ho)).setCell ⟨w.heap.size, 3, none⟩ (.int .i64 x)).setCell ⟨w.heap.size, 4, none⟩ (.int .i64 y)) = w2 at *
    have cS := bS2.cells
    have cR := bR2.cells
    have fR := bR2.frees
    have lR := bR2.lt
    have l1 : w.heap.size < w2.heap.size := by omega
    go_wp2_with fail
    refine (implFailed st pe ho x y 4 0 _).mono ?_
    rintro e w3 ⟨g, v, rfl, hg, hl, hs, hn3⟩
    obtain ⟨hv, hb⟩ := hs
    subst hv
    have ne : ¬ w.heap.size + 1 = g := by omega
    have hg0 : w.heap.size ≤ g := by omega
    dsimp only [srC]
    clear cS cR fR lR l1
    have bR3 := bR2.new hn3
    have N3 := N2.trans hn3
    have cR := bR3.cells
    have fR := bR3.frees
    have lR := bR3.lt
    clear bS2 bR2 N2 hn3 hg
    go_wp2
    refine bodyPost_ret (v := .agg (srC 0 0 0 0 0 0 (.slice (some ⟨g, 0, none⟩) 1 1) false (st == 3) false)) (by simp [results, Try.results42, go_sem, cR]) rfl ⟨g, _, rfl, hg0, by simp [World.setCell]; omega, ⟨rfl, ?_⟩, ?_⟩
    · simp (disch := exact ne) only [Blk.set5]; exact hb
    simp (disch := exact ge2) only [New.set5, N3]
  rw [if_neg t1]
  have hk : Hid (∀ W, Calls Try.prog 68 #[.int .i64 ho] W fun e w' => e = .returned (.int .i64 (if ho < 6 then 1 else 3)) ∧ w' = W) := fun W => implKt ho W
  generalize (if ho < 6 then (1 : Int) else 3) = q at *
  by_cases t2 : q ≤ y
  case pos =>
    rw [if_pos t2]
    go_enter Try.func42, Try.ntmps42
    go_wp2_with fail
    refine (hO.out _).mono ?_
    rintro e w1 ⟨rfl, hn1⟩
    have bS1 := bS0.new hn1
    have bR1 := bR0.new hn1
    have N1 := N0.trans hn1
    have cS := bS1.cells
    have fS := bS1.frees
    have lS := bS1.lt
    have lR := bR1.lt
    clear bS0 bR0 N0 hn1 hO
    go_upto_region 2 with fail
    have bS2 : Blk (((((w1.setCell ⟨w.heap.size, 0, none⟩ (.int .i64 st)).setCell ⟨w.heap.size, 1, none⟩ (.int .i64 pe)).setCell ⟨w.heap.size, 2, none⟩ (.int .i64 ho)).setCell ⟨w.heap.size, 3, none⟩ (.int .i64 x)).setCell ⟨w.heap.size, 4, none⟩ (.int .i64 y)) w.heap.size 27 #[.int .i64 st, .int .i64 pe, .int .i64 ho, .int .i64 x, .int .i64 y] := blk5 _ _ _ _ _ bS1
    have ne1 : ¬ w.heap.size = w.heap.size + 1 := by omega
    have bR2 : Blk (((((w1.setCell ⟨w.heap.size, 0, none⟩ (.int .i64 st)).setCell ⟨w.heap.size, 1, none⟩ (.int .i64 pe)).setCell ⟨w.heap.size, 2, none⟩ (.int .i64 ho)).setCell ⟨w.heap.size, 3, none⟩ (.int .i64 x)).setCell ⟨w.heap.size, 4, none⟩ (.int .i64 y)) (w.heap.size + 1) 40 #[.int .i64 0, .int .i64 0, .int .i64 0, .int .i64 0, .int .i64 0, .int .i64 0, .slice none 0 0, .bool false, .bool false, .bool false] := by simp (disch := exact ne1) only [Blk.set5]; exact bR1
    have ge0 : w.heap.size ≤ w.heap.size := Nat.le_refl _
    have ge2 : w.heap.size ≤ w.heap.size + 1 := Nat.le_succ _
    have N2 : New w (((((w1.setCell ⟨w.heap.size, 0, none⟩ (.int .i64 st)).setCell ⟨w.heap.size, 1, none⟩ (.int .i64 pe)).setCell ⟨w.heap.size, 2, none⟩ (.int .i64 ho)).setCell ⟨w.heap.size, 3, none⟩ (.int .i64 x)).setCell ⟨w.heap.size, 4, none⟩ (.int .i64 y)) := by simp (disch := exact ge0) only [New.set5]; exact N1
    clear cS fS lS lR bS1 bR1 N1
    generalize (((((w1.setCell ⟨w.heap.size, 0, none⟩ (.int .i64 st)).setCell ⟨w.heap.size, 1, none⟩ (.int .i64 pe)).setCell ⟨w.heap.size, 2, none⟩ (.int .i64 ho)).setCell ⟨w.heap.size, 3, none⟩ (.int .i64 x)).setCell ⟨w.heap.size, 4, none⟩ (.int .i64 y)) = w2 at *
    have cS := bS2.cells
    have cR := bR2.cells
    have fR := bR2.frees
    have lR := bR2.lt
    have l1 : w.heap.size < w2.heap.size := by omega
    go_upto_region 6 with fail
    go_region_held3 (fun W => (∀ j, W.cell? ⟨w.heap.size, j, none⟩ = #[Value.int .i64 st, .int .i64 pe, .int .i64 ho, .int .i64 x, .int .i64 y][j]?)) (exact cS)
      ((go_at_call 68; refine (hk.out _).mono ?_; rintro e w9 ⟨rfl, rfl⟩))
    have bS4 := bS2.new ((New.refl _).drew)
    have bR4 := bR2.new ((New.refl _).drew)
    have N4 := N2.drew
    clear cS cR fR lR l1 bS2 bR2 N2
    generalize w2.drew = w3 at *
    have bS2 := bS4
    have bR2 := bR4
    have N2 := N4
    clear bS4 bR4 N4
    have cS := bS2.cells
    have cR := bR2.cells
    have fR := bR2.frees
    have lR := bR2.lt
    have l1 : w.heap.size < w3.heap.size := by omega
    go_wp2_with fail
    refine (implKeep st pe ho x y _).mono ?_
    rintro e w5 ⟨g, v, rfl, hg, hl, hs, hn3⟩
    obtain ⟨hv, hb⟩ := hs
    subst hv
    have ne : ¬ w.heap.size + 1 = g := by omega
    have hg0 : w.heap.size ≤ g := by omega
    dsimp only [srC]
    clear cS cR fR lR l1
    have bR3 := bR2.new hn3
    have N3 := N2.trans hn3
    have cR := bR3.cells
    have fR := bR3.frees
    have lR := bR3.lt
    clear bS2 bR2 N2 hn3 hg
    go_wp2
    refine bodyPost_ret (v := .agg (srC 0 st pe ho x y (.slice (some ⟨g, 0, none⟩) 1 1) false false false)) (by simp [results, Try.results42, go_sem, cR]) rfl ⟨g, _, rfl, hg0, by simp [World.setCell]; omega, ⟨rfl, ?_⟩, ?_⟩
    · simp (disch := exact ne) only [Blk.set5]; exact hb
    simp (disch := exact ge2) only [New.set5, N3]
  rw [if_neg t2]
  go_enter Try.func42, Try.ntmps42
  go_wp2_with fail
  refine (hO.out _).mono ?_
  rintro e w1 ⟨rfl, hn1⟩
  have bS1 := bS0.new hn1
  have bR1 := bR0.new hn1
  have N1 := N0.trans hn1
  have cS := bS1.cells
  have fS := bS1.frees
  have lS := bS1.lt
  have lR := bR1.lt
  clear bS0 bR0 N0 hn1 hO
  go_upto_region 2 with fail
  have bS2 : Blk (((((w1.setCell ⟨w.heap.size, 0, none⟩ (.int .i64 st)).setCell ⟨w.heap.size, 1, none⟩ (.int .i64 pe)).setCell ⟨w.heap.size, 2, none⟩ (.int .i64 ho)).setCell ⟨w.heap.size, 3, none⟩ (.int .i64 x)).setCell ⟨w.heap.size, 4, none⟩ (.int .i64 y)) w.heap.size 27 #[.int .i64 st, .int .i64 pe, .int .i64 ho, .int .i64 x, .int .i64 y] := blk5 _ _ _ _ _ bS1
  have ne1 : ¬ w.heap.size = w.heap.size + 1 := by omega
  have bR2 : Blk (((((w1.setCell ⟨w.heap.size, 0, none⟩ (.int .i64 st)).setCell ⟨w.heap.size, 1, none⟩ (.int .i64 pe)).setCell ⟨w.heap.size, 2, none⟩ (.int .i64 ho)).setCell ⟨w.heap.size, 3, none⟩ (.int .i64 x)).setCell ⟨w.heap.size, 4, none⟩ (.int .i64 y)) (w.heap.size + 1) 40 #[.int .i64 0, .int .i64 0, .int .i64 0, .int .i64 0, .int .i64 0, .int .i64 0, .slice none 0 0, .bool false, .bool false, .bool false] := by simp (disch := exact ne1) only [Blk.set5]; exact bR1
  have ge0 : w.heap.size ≤ w.heap.size := Nat.le_refl _
  have ge2 : w.heap.size ≤ w.heap.size + 1 := Nat.le_succ _
  have N2 : New w (((((w1.setCell ⟨w.heap.size, 0, none⟩ (.int .i64 st)).setCell ⟨w.heap.size, 1, none⟩ (.int .i64 pe)).setCell ⟨w.heap.size, 2, none⟩ (.int .i64 ho)).setCell ⟨w.heap.size, 3, none⟩ (.int .i64 x)).setCell ⟨w.heap.size, 4, none⟩ (.int .i64 y)) := by simp (disch := exact ge0) only [New.set5]; exact N1
  clear cS fS lS lR bS1 bR1 N1
  generalize (((((w1.setCell ⟨w.heap.size, 0, none⟩ (.int .i64 st)).setCell ⟨w.heap.size, 1, none⟩ (.int .i64 pe)).setCell ⟨w.heap.size, 2, none⟩ (.int .i64 ho)).setCell ⟨w.heap.size, 3, none⟩ (.int .i64 x)).setCell ⟨w.heap.size, 4, none⟩ (.int .i64 y)) = w2 at *
  have cS := bS2.cells
  have cR := bR2.cells
  have fR := bR2.frees
  have lR := bR2.lt
  have l1 : w.heap.size < w2.heap.size := by omega
  go_upto_region 6 with fail
  go_region_held3 (fun W => (∀ j, W.cell? ⟨w.heap.size, j, none⟩ = #[Value.int .i64 st, .int .i64 pe, .int .i64 ho, .int .i64 x, .int .i64 y][j]?)) (exact cS)
    ((go_at_call 68; refine (hk.out _).mono ?_; rintro e w9 ⟨rfl, rfl⟩))
  have bS4 := bS2.new ((New.refl _).drew)
  have bR4 := bR2.new ((New.refl _).drew)
  have N4 := N2.drew
  clear cS cR fR lR l1 bS2 bR2 N2
  generalize w2.drew = w3 at *
  have bS2 := bS4
  have bR2 := bR4
  have N2 := N4
  clear bS4 bR4 N4
  have cS := bS2.cells
  have cR := bR2.cells
  have fR := bR2.frees
  have lR := bR2.lt
  have l1 : w.heap.size < w3.heap.size := by omega
  go_wp2
  refine bodyPost_ret (v := .agg (srC 0 st pe ho x y (.slice none 0 0) false false false)) (by simp [results, Try.results42, go_sem, cR]) rfl ⟨w.heap.size, _, rfl, Nat.le_refl _, by simp [World.setCell]; omega, rfl, ?_⟩
  simp (disch := exact ge2) only [New.set5, N2]

set_option maxHeartbeats 800000 in
theorem cond0 (w : World) : Calls Try.prog 18 #[.int .i64 0] w fun e w' => e = .returned (.agg #[.func (.func 37) #[] #[], .func (.func 38) #[] #[]]) ∧ New w w' := by
  go_enter Try.func18, Try.ntmps18
  go_wp2
  refine bodyPost_ret (v := .agg #[.func (.func 37) #[] #[], .func (.func 38) #[] #[]]) (by simp [results, Try.results18, go_sem]) rfl ⟨rfl, ?_⟩
  exact ((New.refl w).alloc _).alloc _

set_option maxHeartbeats 800000 in
theorem cond1 (w : World) : Calls Try.prog 18 #[.int .i64 1] w fun e w' => e = .returned (.agg #[.func (.func 39) #[] #[], .func (.func 40) #[] #[]]) ∧ New w w' := by
  go_enter Try.func18, Try.ntmps18
  go_wp2
  refine bodyPost_ret (v := .agg #[.func (.func 39) #[] #[], .func (.func 40) #[] #[]]) (by simp [results, Try.results18, go_sem]) rfl ⟨rfl, ?_⟩
  exact ((New.refl w).alloc _).alloc _

set_option maxHeartbeats 800000 in
theorem cond2 (w : World) : Calls Try.prog 18 #[.int .i64 2] w fun e w' => e = .returned (.agg #[.func (.func 41) #[] #[], .func (.func 42) #[] #[]]) ∧ New w w' := by
  go_enter Try.func18, Try.ntmps18
  go_wp2
  refine bodyPost_ret (v := .agg #[.func (.func 41) #[] #[], .func (.func 42) #[] #[]]) (by simp [results, Try.results18, go_sem]) rfl ⟨rfl, ?_⟩
  exact ((New.refl w).alloc _).alloc _

set_option maxHeartbeats 800000 in
theorem cond3 (w : World) : Calls Try.prog 18 #[.int .i64 3] w fun e w' => e = .returned (.agg #[.func (.func 43) #[] #[], .func (.func 42) #[] #[]]) ∧ New w w' := by
  go_enter Try.func18, Try.ntmps18
  go_wp2
  refine bodyPost_ret (v := .agg #[.func (.func 43) #[] #[], .func (.func 42) #[] #[]]) (by simp [results, Try.results18, go_sem]) rfl ⟨rfl, ?_⟩
  exact ((New.refl w).alloc _).alloc _

set_option maxHeartbeats 800000 in
theorem countN (B : Nat) (c st pe ho si sp : Int) (up dn ud : Bool) (u : FrameMode) (w : World) (hb : Blk w B 40 #[.int .i64 c, .int .i64 st, .int .i64 pe, .int .i64 ho, .int .i64 si, .int .i64 sp, .slice none 0 0, .bool up, .bool dn, .bool ud]) :
    CallsD Try.prog 17 #[.pointer (some ⟨B, 0, none⟩)] u w fun e u' w' => u' = u ∧ (e = .returned (.tuple #[]) ∧ w' = w) := by
  have cB := hb.cells
  go_enter_d Try.func17, Try.ntmps17
  go_wp2
  go_end0
  exact ⟨rfl, rfl⟩

set_option maxHeartbeats 800000 in
theorem countS (B g : Nat) (c st pe ho si sp : Int) (up dn ud : Bool) (u : FrameMode) (w : World) (hb : Blk w B 40 #[.int .i64 c, .int .i64 st, .int .i64 pe, .int .i64 ho, .int .i64 si, .int .i64 sp, .slice (some ⟨g, 0, none⟩) 1 1, .bool up, .bool dn, .bool ud]) :
    CallsD Try.prog 17 #[.pointer (some ⟨B, 0, none⟩)] u w fun e u' w' => u' = u ∧ (e = .returned (.tuple #[]) ∧ w' = w.setCell ⟨B, 5, none⟩ (.int .i64 0)) := by
  have cB := hb.cells
  have fB := hb.frees
  have lB := hb.lt
  go_enter_d Try.func17, Try.ntmps17
  go_wp2
  go_end0
  exact ⟨rfl, rfl⟩

end Go.Proofs.Yteniieagcehmpaa
