/- What is proved here: what the drawing of a bent rule answers. -/
import Derived.Test.YtidibaknahfmmaaDrawRu
namespace Go.Proofs.Ytidibaknahfmmaa
open Go.RowKit Go.Sort
set_option linter.unusedVariables false

set_option maxHeartbeats 3200000 in
theorem l6Bent_sc {B n c t : Nat} {a : Option Addr} {zs : List Int} {w : World} (h : Sc w B a n c zs t) (ht : t ≤ 40000) : Calls Try.prog 44 #[.pointer (some ⟨B, 0, none⟩)] w fun e w' => ∃ (x l ls ms s : Int) (d : Bool) (lc pp : Int) (t' : Nat), e = .returned (.agg #[.int .i64 x, .int .i64 l, .int .i64 ls, .int .i64 ms, .int .i64 s, .bool d, .int .i64 lc, .int .i64 pp]) ∧ t' ≤ t + 80 ∧ Sc w' B a n c zs t' ∧ Turn (fun k => k = B) w w' := by
  have hlt := h.blk.lt
  have hA := h.lt_of
  have N0 : New w (w.alloc (.cells #[.int .i64 0, .int .i64 0, .int .i64 0, .int .i64 0, .int .i64 0, .bool false, .int .i64 0, .int .i64 0] 40)) := (New.refl w).alloc _
  have bR0 := Blk.mk w w.heap.size 40 #[.int .i64 0, .int .i64 0, .int .i64 0, .int .i64 0, .int .i64 0, .bool false, .int .i64 0, .int .i64 0] rfl
  have y0 : (w.alloc (.cells #[.int .i64 0, .int .i64 0, .int .i64 0, .int .i64 0, .int .i64 0, .bool false, .int .i64 0, .int .i64 0] 40)).heap.size = w.heap.size + 1 := by simp
  have hs0 := h.new N0
  have tT0 : Turn (fun k => k = B) w (w.alloc (.cells #[.int .i64 0, .int .i64 0, .int .i64 0, .int .i64 0, .int .i64 0, .bool false, .int .i64 0, .int .i64 0] 40)) := N0.turn
  have hRB : ¬ w.heap.size = B := by omega
  have hSR : ∀ x, zs ≠ [] → a = some x → ¬ x.block = w.heap.size := fun x h1 h2 e => by have := hA x h1 h2; omega
  have z0 : w.heap.size < (w.alloc (.cells #[.int .i64 0, .int .i64 0, .int .i64 0, .int .i64 0, .int .i64 0, .bool false, .int .i64 0, .int .i64 0] 40)).heap.size := by omega
  clear y0
  go_enter Try.func44, Try.ntmps44
  go_wp2_with fail
  refine (l6Rule_sc hs0 (by omega)).mono ?_
  rintro e w1 ⟨x, l, ls, ms, s, d, lc, pp, t1, rfl, ht1, hs1, tn1⟩
  have bR1 := bR0.turn tn1 hRB
  have tT1 := Turn.both tT0 tn1
  have z1 : w.heap.size < w1.heap.size := by have := tn1.size; omega
  clear bR0 tT0 tn1
  go_upto_region 2 with fail
  have hal : New w1 (w1.alloc (.cells #[.int .i64 x, .int .i64 l, .int .i64 ls, .int .i64 ms, .int .i64 s, .bool d, .int .i64 lc, .int .i64 pp] 40)) := (New.refl _).alloc _
  have bV2 : Blk (w1.alloc (.cells #[.int .i64 x, .int .i64 l, .int .i64 ls, .int .i64 ms, .int .i64 s, .bool d, .int .i64 lc, .int .i64 pp] 40)) w1.heap.size 40 #[.int .i64 x, .int .i64 l, .int .i64 ls, .int .i64 ms, .int .i64 s, .bool d, .int .i64 lc, .int .i64 pp] := Blk.mk _ _ _ _ rfl
  have bR2 := bR1.new hal
  have hs2 := hs1.new hal
  have tT2 := Turn.andNew tT1 hal
  have hVB : ¬ w1.heap.size = B := by have := hs1.blk.lt; omega
  have v2 : w1.heap.size < (w1.alloc (.cells #[.int .i64 x, .int .i64 l, .int .i64 ls, .int .i64 ms, .int .i64 s, .bool d, .int .i64 lc, .int .i64 pp] 40)).heap.size := by simp
  clear bR1 hs1 tT1 hal
  generalize (w1.alloc (.cells #[.int .i64 x, .int .i64 l, .int .i64 ls, .int .i64 ms, .int .i64 s, .bool d, .int .i64 lc, .int .i64 pp] 40)) = w2 at *
  go_wp2_with fail
  refine (next_sc hs2 14 (by omega) (by omega)).mono ?_
  rintro e w3 ⟨y, rfl, -, hs3, tn3⟩
  have bV3 := bV2.turn tn3 hVB
  have bR3 := bR2.turn tn3 hRB
  have tT3 := Turn.both tT2 tn3
  have s3 := tn3.size
  clear bV2 bR2 tT2 tn3 hs2
  have z3 : w.heap.size < w3.heap.size := by omega
  by_cases g0 : y = 0
  · subst g0
    go_wp2_with fail
    refine (l2Bent_sc hs3 (by omega)).mono ?_
    rintro e w4 ⟨p, q, t4, rfl, -, -, ht4, hs4, tn4⟩
    have bV4 := bV3.turn tn4 hVB
    have bR4 := bR3.turn tn4 hRB
    have tT4 := Turn.both tT3 tn4
    have s4 := tn4.size
    have z4 : w.heap.size < w4.heap.size := by omega
    clear bV3 bR3 tT3 hs3 tn4
    have hTs : Turn (fun k => k = w1.heap.size) w4 ((w4.setCell ⟨w1.heap.size, 0, none⟩ (.int .i64 p)).setCell ⟨w1.heap.size, 1, none⟩ (.int .i64 q)) := Turn.hereD (Turn.hereD (Turn.refl _ _) _) _
    have bV5 : Blk ((w4.setCell ⟨w1.heap.size, 0, none⟩ (.int .i64 p)).setCell ⟨w1.heap.size, 1, none⟩ (.int .i64 q)) w1.heap.size 40 #[.int .i64 p, .int .i64 q, .int .i64 ls, .int .i64 ms, .int .i64 s, .bool d, .int .i64 lc, .int .i64 pp] := ((bV4.set 0 _).set 1 _)
    have bR5 := bR4.turn hTs (by omega)
    have hs5 := hs4.turn hTs (by omega) (fun x h1 h2 e => by have := hA x h1 h2; omega)
    have tT5 := Turn.trans tT4 hTs (fun i hi e => by omega)
    have z5 : w.heap.size < ((w4.setCell ⟨w1.heap.size, 0, none⟩ (.int .i64 p)).setCell ⟨w1.heap.size, 1, none⟩ (.int .i64 q)).heap.size := by have := hTs.size; omega
    have cV4 := bV4.cells
    have fV4 := bV4.frees
    go_upto_region 15 with fail
    clear bV4 bR4 hs4 tT4 hTs cV4 fV4
    generalize ((w4.setCell ⟨w1.heap.size, 0, none⟩ (.int .i64 p)).setCell ⟨w1.heap.size, 1, none⟩ (.int .i64 q)) = w5 at *
    have cR := bR5.cells
    have fR := bR5.frees
    have cV := bV5.cells
    go_wp2
    refine bodyPost_ret (v := .agg #[.int .i64 p, .int .i64 q, .int .i64 ls, .int .i64 ms, .int .i64 s, .bool d, .int .i64 lc, .int .i64 pp]) (by simp [results, Try.results44, go_sem, cR]) rfl ?_
    refine (fun (hT : Turn (fun k => k = w.heap.size) w5 _) => ⟨p, q, ls, ms, s, d, lc, pp, _, rfl, by omega, hs5.turn hT (fun e => hRB e.symm) hSR, Turn.trans tT5 hT (fun i hi e => by omega)⟩) ?_
    exact Turn.hereD (Turn.hereD (Turn.hereD (Turn.hereD (Turn.hereD (Turn.hereD (Turn.hereD (Turn.hereD (Turn.refl _ _) _) _) _) _) _) _) _) _
  have e0 : (y == 0) = false := by simpa using g0
  by_cases g1 : y = 1
  · subst g1
    go_wp2_with fail
    refine (pick_sc (hs3.new ((New.refl _).alloc (.cells #[.int .i64 (-1), .int .i64 (17), .int .i64 (16)] 2))) [-1, 17, 16] (Blk.mk w3 w3.heap.size 2 #[.int .i64 (-1), .int .i64 (17), .int .i64 (16)] rfl) 3 rfl (by omega) (by omega) (by omega)).mono ?_
    rintro e w4 ⟨q, rfl, -, hs4, tn4⟩
    have bV4 := (bV3.alloc (.cells #[.int .i64 (-1), .int .i64 (17), .int .i64 (16)] 2)).turn tn4 hVB
    have bR4 := (bR3.alloc (.cells #[.int .i64 (-1), .int .i64 (17), .int .i64 (16)] 2)).turn tn4 hRB
    have tT4 := Turn.both (Turn.andNew tT3 ((New.refl _).alloc (.cells #[.int .i64 (-1), .int .i64 (17), .int .i64 (16)] 2))) tn4
    have s4 : w3.heap.size ≤ w4.heap.size := by have := tn4.size; simp at this; omega
    have z4 : w.heap.size < w4.heap.size := by omega
    clear bV3 bR3 tT3 hs3 tn4
    have hTs : Turn (fun k => k = w1.heap.size) w4 (w4.setCell ⟨w1.heap.size, 2, none⟩ (.int .i64 q)) := Turn.hereD (Turn.refl _ _) _
    have bV5 : Blk (w4.setCell ⟨w1.heap.size, 2, none⟩ (.int .i64 q)) w1.heap.size 40 #[.int .i64 x, .int .i64 l, .int .i64 q, .int .i64 ms, .int .i64 s, .bool d, .int .i64 lc, .int .i64 pp] := (bV4.set 2 _)
    have bR5 := bR4.turn hTs (by omega)
    have hs5 := hs4.turn hTs (by omega) (fun x h1 h2 e => by have := hA x h1 h2; omega)
    have tT5 := Turn.trans tT4 hTs (fun i hi e => by omega)
    have z5 : w.heap.size < (w4.setCell ⟨w1.heap.size, 2, none⟩ (.int .i64 q)).heap.size := by have := hTs.size; omega
    have cV4 := bV4.cells
    have fV4 := bV4.frees
    go_upto_region 15 with fail
    clear bV4 bR4 hs4 tT4 hTs cV4 fV4
    generalize (w4.setCell ⟨w1.heap.size, 2, none⟩ (.int .i64 q)) = w5 at *
    have cR := bR5.cells
    have fR := bR5.frees
    have cV := bV5.cells
    go_wp2
    refine bodyPost_ret (v := .agg #[.int .i64 x, .int .i64 l, .int .i64 q, .int .i64 ms, .int .i64 s, .bool d, .int .i64 lc, .int .i64 pp]) (by simp [results, Try.results44, go_sem, cR]) rfl ?_
    refine (fun (hT : Turn (fun k => k = w.heap.size) w5 _) => ⟨x, l, q, ms, s, d, lc, pp, _, rfl, by omega, hs5.turn hT (fun e => hRB e.symm) hSR, Turn.trans tT5 hT (fun i hi e => by omega)⟩) ?_
    exact Turn.hereD (Turn.hereD (Turn.hereD (Turn.hereD (Turn.hereD (Turn.hereD (Turn.hereD (Turn.hereD (Turn.refl _ _) _) _) _) _) _) _) _) _
  have e1 : (y == 1) = false := by simpa using g1
  by_cases g2 : y = 2
  · subst g2
    go_wp2_with fail
    refine (pick_sc (hs3.new ((New.refl _).alloc (.cells #[.int .i64 (-1), .int .i64 (65536)] 2))) [-1, 65536] (Blk.mk w3 w3.heap.size 2 #[.int .i64 (-1), .int .i64 (65536)] rfl) 2 rfl (by omega) (by omega) (by omega)).mono ?_
    rintro e w4 ⟨q, rfl, -, hs4, tn4⟩
    have bV4 := (bV3.alloc (.cells #[.int .i64 (-1), .int .i64 (65536)] 2)).turn tn4 hVB
    have bR4 := (bR3.alloc (.cells #[.int .i64 (-1), .int .i64 (65536)] 2)).turn tn4 hRB
    have tT4 := Turn.both (Turn.andNew tT3 ((New.refl _).alloc (.cells #[.int .i64 (-1), .int .i64 (65536)] 2))) tn4
    have s4 : w3.heap.size ≤ w4.heap.size := by have := tn4.size; simp at this; omega
    have z4 : w.heap.size < w4.heap.size := by omega
    clear bV3 bR3 tT3 hs3 tn4
    have hTs : Turn (fun k => k = w1.heap.size) w4 (w4.setCell ⟨w1.heap.size, 4, none⟩ (.int .i64 q)) := Turn.hereD (Turn.refl _ _) _
    have bV5 : Blk (w4.setCell ⟨w1.heap.size, 4, none⟩ (.int .i64 q)) w1.heap.size 40 #[.int .i64 x, .int .i64 l, .int .i64 ls, .int .i64 ms, .int .i64 q, .bool d, .int .i64 lc, .int .i64 pp] := (bV4.set 4 _)
    have bR5 := bR4.turn hTs (by omega)
    have hs5 := hs4.turn hTs (by omega) (fun x h1 h2 e => by have := hA x h1 h2; omega)
    have tT5 := Turn.trans tT4 hTs (fun i hi e => by omega)
    have z5 : w.heap.size < (w4.setCell ⟨w1.heap.size, 4, none⟩ (.int .i64 q)).heap.size := by have := hTs.size; omega
    have cV4 := bV4.cells
    have fV4 := bV4.frees
    go_upto_region 15 with fail
    clear bV4 bR4 hs4 tT4 hTs cV4 fV4
    generalize (w4.setCell ⟨w1.heap.size, 4, none⟩ (.int .i64 q)) = w5 at *
    have cR := bR5.cells
    have fR := bR5.frees
    have cV := bV5.cells
    go_wp2
    refine bodyPost_ret (v := .agg #[.int .i64 x, .int .i64 l, .int .i64 ls, .int .i64 ms, .int .i64 q, .bool d, .int .i64 lc, .int .i64 pp]) (by simp [results, Try.results44, go_sem, cR]) rfl ?_
    refine (fun (hT : Turn (fun k => k = w.heap.size) w5 _) => ⟨x, l, ls, ms, q, d, lc, pp, _, rfl, by omega, hs5.turn hT (fun e => hRB e.symm) hSR, Turn.trans tT5 hT (fun i hi e => by omega)⟩) ?_
    exact Turn.hereD (Turn.hereD (Turn.hereD (Turn.hereD (Turn.hereD (Turn.hereD (Turn.hereD (Turn.hereD (Turn.refl _ _) _) _) _) _) _) _) _) _
  have e2 : (y == 2) = false := by simpa using g2
  by_cases g3 : y = 3
  · subst g3
    go_wp2_with fail
    refine (pick_sc (hs3.new ((New.refl _).alloc (.cells #[.int .i64 (-2), .int .i64 (65536)] 2))) [-2, 65536] (Blk.mk w3 w3.heap.size 2 #[.int .i64 (-2), .int .i64 (65536)] rfl) 2 rfl (by omega) (by omega) (by omega)).mono ?_
    rintro e w4 ⟨q, rfl, -, hs4, tn4⟩
    have bV4 := (bV3.alloc (.cells #[.int .i64 (-2), .int .i64 (65536)] 2)).turn tn4 hVB
    have bR4 := (bR3.alloc (.cells #[.int .i64 (-2), .int .i64 (65536)] 2)).turn tn4 hRB
    have tT4 := Turn.both (Turn.andNew tT3 ((New.refl _).alloc (.cells #[.int .i64 (-2), .int .i64 (65536)] 2))) tn4
    have s4 : w3.heap.size ≤ w4.heap.size := by have := tn4.size; simp at this; omega
    have z4 : w.heap.size < w4.heap.size := by omega
    clear bV3 bR3 tT3 hs3 tn4
    have hTs : Turn (fun k => k = w1.heap.size) w4 (w4.setCell ⟨w1.heap.size, 6, none⟩ (.int .i64 q)) := Turn.hereD (Turn.refl _ _) _
    have bV5 : Blk (w4.setCell ⟨w1.heap.size, 6, none⟩ (.int .i64 q)) w1.heap.size 40 #[.int .i64 x, .int .i64 l, .int .i64 ls, .int .i64 ms, .int .i64 s, .bool d, .int .i64 q, .int .i64 pp] := (bV4.set 6 _)
    have bR5 := bR4.turn hTs (by omega)
    have hs5 := hs4.turn hTs (by omega) (fun x h1 h2 e => by have := hA x h1 h2; omega)
    have tT5 := Turn.trans tT4 hTs (fun i hi e => by omega)
    have z5 : w.heap.size < (w4.setCell ⟨w1.heap.size, 6, none⟩ (.int .i64 q)).heap.size := by have := hTs.size; omega
    have cV4 := bV4.cells
    have fV4 := bV4.frees
    go_upto_region 15 with fail
    clear bV4 bR4 hs4 tT4 hTs cV4 fV4
    generalize (w4.setCell ⟨w1.heap.size, 6, none⟩ (.int .i64 q)) = w5 at *
    have cR := bR5.cells
    have fR := bR5.frees
    have cV := bV5.cells
    go_wp2
    refine bodyPost_ret (v := .agg #[.int .i64 x, .int .i64 l, .int .i64 ls, .int .i64 ms, .int .i64 s, .bool d, .int .i64 q, .int .i64 pp]) (by simp [results, Try.results44, go_sem, cR]) rfl ?_
    refine (fun (hT : Turn (fun k => k = w.heap.size) w5 _) => ⟨x, l, ls, ms, s, d, q, pp, _, rfl, by omega, hs5.turn hT (fun e => hRB e.symm) hSR, Turn.trans tT5 hT (fun i hi e => by omega)⟩) ?_
    exact Turn.hereD (Turn.hereD (Turn.hereD (Turn.hereD (Turn.hereD (Turn.hereD (Turn.hereD (Turn.hereD (Turn.refl _ _) _) _) _) _) _) _) _) _
  have e3 : (y == 3) = false := by simpa using g3
  by_cases g4 : y = 4
  · subst g4
    go_wp2_with fail
    refine (pick_sc (hs3.new ((New.refl _).alloc (.cells #[.int .i64 (-1), .int .i64 (4), .int .i64 (3)] 2))) [-1, 4, 3] (Blk.mk w3 w3.heap.size 2 #[.int .i64 (-1), .int .i64 (4), .int .i64 (3)] rfl) 3 rfl (by omega) (by omega) (by omega)).mono ?_
    rintro e w4 ⟨q, rfl, -, hs4, tn4⟩
    have bV4 := (bV3.alloc (.cells #[.int .i64 (-1), .int .i64 (4), .int .i64 (3)] 2)).turn tn4 hVB
    have bR4 := (bR3.alloc (.cells #[.int .i64 (-1), .int .i64 (4), .int .i64 (3)] 2)).turn tn4 hRB
    have tT4 := Turn.both (Turn.andNew tT3 ((New.refl _).alloc (.cells #[.int .i64 (-1), .int .i64 (4), .int .i64 (3)] 2))) tn4
    have s4 : w3.heap.size ≤ w4.heap.size := by have := tn4.size; simp at this; omega
    have z4 : w.heap.size < w4.heap.size := by omega
    clear bV3 bR3 tT3 hs3 tn4
    have hTs : Turn (fun k => k = w1.heap.size) w4 (w4.setCell ⟨w1.heap.size, 7, none⟩ (.int .i64 q)) := Turn.hereD (Turn.refl _ _) _
    have bV5 : Blk (w4.setCell ⟨w1.heap.size, 7, none⟩ (.int .i64 q)) w1.heap.size 40 #[.int .i64 x, .int .i64 l, .int .i64 ls, .int .i64 ms, .int .i64 s, .bool d, .int .i64 lc, .int .i64 q] := (bV4.set 7 _)
    have bR5 := bR4.turn hTs (by omega)
    have hs5 := hs4.turn hTs (by omega) (fun x h1 h2 e => by have := hA x h1 h2; omega)
    have tT5 := Turn.trans tT4 hTs (fun i hi e => by omega)
    have z5 : w.heap.size < (w4.setCell ⟨w1.heap.size, 7, none⟩ (.int .i64 q)).heap.size := by have := hTs.size; omega
    have cV4 := bV4.cells
    have fV4 := bV4.frees
    go_upto_region 15 with fail
    clear bV4 bR4 hs4 tT4 hTs cV4 fV4
    generalize (w4.setCell ⟨w1.heap.size, 7, none⟩ (.int .i64 q)) = w5 at *
    have cR := bR5.cells
    have fR := bR5.frees
    have cV := bV5.cells
    go_wp2
    refine bodyPost_ret (v := .agg #[.int .i64 x, .int .i64 l, .int .i64 ls, .int .i64 ms, .int .i64 s, .bool d, .int .i64 lc, .int .i64 q]) (by simp [results, Try.results44, go_sem, cR]) rfl ?_
    refine (fun (hT : Turn (fun k => k = w.heap.size) w5 _) => ⟨x, l, ls, ms, s, d, lc, q, _, rfl, by omega, hs5.turn hT (fun e => hRB e.symm) hSR, Turn.trans tT5 hT (fun i hi e => by omega)⟩) ?_
    exact Turn.hereD (Turn.hereD (Turn.hereD (Turn.hereD (Turn.hereD (Turn.hereD (Turn.hereD (Turn.hereD (Turn.refl _ _) _) _) _) _) _) _) _) _
  have e4 : (y == 4) = false := by simpa using g4
  by_cases g5 : y = 5
  · subst g5
    have hTs : Turn (fun k => k = w1.heap.size) w3 (w3.setCell ⟨w1.heap.size, 5, none⟩ (.bool true)) := Turn.hereD (Turn.refl _ _) _
    have bV5 : Blk (w3.setCell ⟨w1.heap.size, 5, none⟩ (.bool true)) w1.heap.size 40 #[.int .i64 x, .int .i64 l, .int .i64 ls, .int .i64 ms, .int .i64 s, .bool true, .int .i64 lc, .int .i64 pp] := (bV3.set 5 _)
    have bR5 := bR3.turn hTs (by omega)
    have hs5 := hs3.turn hTs (by omega) (fun x h1 h2 e => by have := hA x h1 h2; omega)
    have tT5 := Turn.trans tT3 hTs (fun i hi e => by omega)
    have z5 : w.heap.size < (w3.setCell ⟨w1.heap.size, 5, none⟩ (.bool true)).heap.size := by have := hTs.size; omega
    have cV3 := bV3.cells
    have fV3 := bV3.frees
    go_upto_region 15 with fail
    clear bV3 bR3 hs3 tT3 hTs cV3 fV3
    generalize (w3.setCell ⟨w1.heap.size, 5, none⟩ (.bool true)) = w5 at *
    have cR := bR5.cells
    have fR := bR5.frees
    have cV := bV5.cells
    go_wp2
    refine bodyPost_ret (v := .agg #[.int .i64 x, .int .i64 l, .int .i64 ls, .int .i64 ms, .int .i64 s, .bool true, .int .i64 lc, .int .i64 pp]) (by simp [results, Try.results44, go_sem, cR]) rfl ?_
    refine (fun (hT : Turn (fun k => k = w.heap.size) w5 _) => ⟨x, l, ls, ms, s, true, lc, pp, _, rfl, by omega, hs5.turn hT (fun e => hRB e.symm) hSR, Turn.trans tT5 hT (fun i hi e => by omega)⟩) ?_
    exact Turn.hereD (Turn.hereD (Turn.hereD (Turn.hereD (Turn.hereD (Turn.hereD (Turn.hereD (Turn.hereD (Turn.refl _ _) _) _) _) _) _) _) _) _
  have e5 : (y == 5) = false := by simpa using g5
  have cR := bR3.cells
  have fR := bR3.frees
  have cV := bV3.cells
  go_wp2
  refine bodyPost_ret (v := .agg #[.int .i64 x, .int .i64 l, .int .i64 ls, .int .i64 ms, .int .i64 s, .bool d, .int .i64 lc, .int .i64 pp]) (by simp [results, Try.results44, go_sem, cR]) rfl ?_
  refine (fun (hT : Turn (fun k => k = w.heap.size) w3 _) => ⟨x, l, ls, ms, s, d, lc, pp, _, rfl, by omega, hs3.turn hT (fun e => hRB e.symm) hSR, Turn.trans tT3 hT (fun i hi e => by omega)⟩) ?_
  exact Turn.hereD (Turn.hereD (Turn.hereD (Turn.hereD (Turn.hereD (Turn.hereD (Turn.hereD (Turn.hereD (Turn.refl _ _) _) _) _) _) _) _) _) _

end Go.Proofs.Ytidibaknahfmmaa
