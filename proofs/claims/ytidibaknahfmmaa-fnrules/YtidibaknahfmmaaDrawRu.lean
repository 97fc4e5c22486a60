/- What is proved here: what the drawing of a rule answers. -/
import Derived.Test.YtidibaknahfmmaaDrawEx
namespace Go.Proofs.Ytidibaknahfmmaa
open Go.RowKit Go.Sort
set_option linter.unusedVariables false

set_option maxHeartbeats 3200000 in
theorem l6Rule_sc {B n c t : Nat} {a : Option Addr} {zs : List Int} {w : World} (h : Sc w B a n c zs t) (ht : t ≤ 50000) : Calls Try.prog 43 #[.pointer (some ⟨B, 0, none⟩)] w fun e w' => ∃ (x l ls ms s : Int) (d : Bool) (lc pp : Int) (t' : Nat), e = .returned (.agg #[.int .i64 x, .int .i64 l, .int .i64 ls, .int .i64 ms, .int .i64 s, .bool d, .int .i64 lc, .int .i64 pp]) ∧ t' ≤ t + 40 ∧ Sc w' B a n c zs t' ∧ Turn (fun k => k = B) w w' := by
  have hlt := h.blk.lt
  have hA := h.lt_of
  have N0 : New w (w.alloc (.cells #[.int .i64 0, .int .i64 0, .int .i64 0, .int .i64 0, .int .i64 0, .bool false, .int .i64 0, .int .i64 0] 40)) := (New.refl w).alloc _
  have bR0 := Blk.mk w w.heap.size 40 #[.int .i64 0, .int .i64 0, .int .i64 0, .int .i64 0, .int .i64 0, .bool false, .int .i64 0, .int .i64 0] rfl
  have y0 : (w.alloc (.cells #[.int .i64 0, .int .i64 0, .int .i64 0, .int .i64 0, .int .i64 0, .bool false, .int .i64 0, .int .i64 0] 40)).heap.size = w.heap.size + 1 := by simp
  have hs0 := h.new N0
  have tT0 : Turn (fun k => k = B) w (w.alloc (.cells #[.int .i64 0, .int .i64 0, .int .i64 0, .int .i64 0, .int .i64 0, .bool false, .int .i64 0, .int .i64 0] 40)) := N0.turn
  have hRB : ¬ w.heap.size = B := by omega
  have hSR : ∀ x, zs ≠ [] → a = some x → ¬ x.block = w.heap.size := fun x h1 h2 e => by have := hA x h1 h2; omega
  have z0 : w.heap.size < (w.alloc (.cells #[.int .i64 0, .int .i64 0, .int .i64 0, .int .i64 0, .int .i64 0, .bool false, .int .i64 0, .int .i64 0] 40)).heap.size := by omega
  clear y0
  go_enter Try.func43, Try.ntmps43
  go_wp2_with fail
  refine (l2Prefix_sc hs0 (by omega)).mono ?_
  rintro e w1 ⟨x, l, t1, rfl, -, ht1, hs1, tn1⟩
  have bR1 := bR0.turn tn1 hRB
  have tT1 := Turn.both tT0 tn1
  have z1 : w.heap.size < w1.heap.size := by have := tn1.size; omega
  clear bR0 tT0 tn1
  go_wp2_with fail
  refine (next_sc hs1 9 (by omega) (by omega)).mono ?_
  rintro e w2 ⟨y1, rfl, -, hs2, tn2⟩
  have bR2 := bR1.turn tn2 hRB
  have tT2 := Turn.both tT1 tn2
  have z2 : w.heap.size < w2.heap.size := by have := tn2.size; omega
  clear bR1 tT1 tn2
  go_wp2_with fail
  refine (next_sc hs2 5 (by omega) (by omega)).mono ?_
  rintro e w3 ⟨y2, rfl, ⟨py2, qy2, -⟩, hs3, tn3⟩
  have bR3 := bR2.turn tn3 hRB
  have tT3 := Turn.both tT2 tn3
  have z3 : w.heap.size < w3.heap.size := by have := tn3.size; omega
  clear bR2 tT2 tn3
  have qy2 := qy2 (by omega)
  have hwy2 : IntKind.i64.wrap (16 - y2) = 16 - y2 := wrap_in (by omega)
  go_wp2_with fail
  refine (next_sc hs3 5 (by omega) (by omega)).mono ?_
  rintro e w4 ⟨y3, rfl, ⟨py3, qy3, -⟩, hs4, tn4⟩
  have bR4 := bR3.turn tn4 hRB
  have tT4 := Turn.both tT3 tn4
  have z4 : w.heap.size < w4.heap.size := by have := tn4.size; omega
  clear bR3 tT3 tn4
  have qy3 := qy3 (by omega)
  have hwy3 : IntKind.i64.wrap (1 + y3) = 1 + y3 := wrap_in (by omega)
  go_wp2_with fail
  refine (pick_sc (hs4.new ((New.refl _).alloc (.cells #[.int .i64 (0), .int .i64 (0), .int .i64 (1 + y3)] 2))) [0, 0, 1 + y3] (Blk.mk w4 w4.heap.size 2 #[.int .i64 (0), .int .i64 (0), .int .i64 (1 + y3)] rfl) 3 rfl (by omega) (by omega) (by omega)).mono ?_
  rintro e w5 ⟨q1, rfl, -, hs5, tn5⟩
  have bR5 := (bR4.alloc (.cells #[.int .i64 (0), .int .i64 (0), .int .i64 (1 + y3)] 2)).turn tn5 hRB
  have tT5 := Turn.both (Turn.andNew tT4 ((New.refl _).alloc (.cells #[.int .i64 (0), .int .i64 (0), .int .i64 (1 + y3)] 2))) tn5
  have z5 : w.heap.size < w5.heap.size := by have := tn5.size; simp at this; omega
  clear bR4 tT4 tn5
  go_wp2_with fail
  refine (pick_sc (hs5.new ((New.refl _).alloc (.cells #[.int .i64 (-1), .int .i64 (200), .int .i64 (50)] 2))) [-1, 200, 50] (Blk.mk w5 w5.heap.size 2 #[.int .i64 (-1), .int .i64 (200), .int .i64 (50)] rfl) 3 rfl (by omega) (by omega) (by omega)).mono ?_
  rintro e w6 ⟨q2, rfl, -, hs6, tn6⟩
  have bR6 := (bR5.alloc (.cells #[.int .i64 (-1), .int .i64 (200), .int .i64 (50)] 2)).turn tn6 hRB
  have tT6 := Turn.both (Turn.andNew tT5 ((New.refl _).alloc (.cells #[.int .i64 (-1), .int .i64 (200), .int .i64 (50)] 2))) tn6
  have z6 : w.heap.size < w6.heap.size := by have := tn6.size; simp at this; omega
  clear bR5 tT5 tn6
  go_wp2_with fail
  refine (pick_sc (hs6.new ((New.refl _).alloc (.cells #[.int .i64 (0), .int .i64 (0), .int .i64 (1), .int .i64 (3)] 2))) [0, 0, 1, 3] (Blk.mk w6 w6.heap.size 2 #[.int .i64 (0), .int .i64 (0), .int .i64 (1), .int .i64 (3)] rfl) 4 rfl (by omega) (by omega) (by omega)).mono ?_
  rintro e w7 ⟨q3, rfl, -, hs7, tn7⟩
  have bR7 := (bR6.alloc (.cells #[.int .i64 (0), .int .i64 (0), .int .i64 (1), .int .i64 (3)] 2)).turn tn7 hRB
  have tT7 := Turn.both (Turn.andNew tT6 ((New.refl _).alloc (.cells #[.int .i64 (0), .int .i64 (0), .int .i64 (1), .int .i64 (3)] 2))) tn7
  have z7 : w.heap.size < w7.heap.size := by have := tn7.size; simp at this; omega
  clear bR6 tT6 tn7
  go_upto_region 2 with fail
  have hal : New w7 (w7.alloc (.cells #[.int .i64 x, .int .i64 l, .int .i64 y1, .int .i64 (16 - y2), .int .i64 q1, .bool false, .int .i64 q2, .int .i64 q3] 40)) := (New.refl _).alloc _
  have bV8 : Blk (w7.alloc (.cells #[.int .i64 x, .int .i64 l, .int .i64 y1, .int .i64 (16 - y2), .int .i64 q1, .bool false, .int .i64 q2, .int .i64 q3] 40)) w7.heap.size 40 #[.int .i64 x, .int .i64 l, .int .i64 y1, .int .i64 (16 - y2), .int .i64 q1, .bool false, .int .i64 q2, .int .i64 q3] := Blk.mk _ _ _ _ rfl
  have bR8 := bR7.new hal
  have hs8 := hs7.new hal
  have tT8 := Turn.andNew tT7 hal
  have hVB : ¬ w7.heap.size = B := by have := hs7.blk.lt; omega
  have v8 : w7.heap.size < (w7.alloc (.cells #[.int .i64 x, .int .i64 l, .int .i64 y1, .int .i64 (16 - y2), .int .i64 q1, .bool false, .int .i64 q2, .int .i64 q3] 40)).heap.size := by simp
  clear bR7 hs7 tT7 hal
  generalize (w7.alloc (.cells #[.int .i64 x, .int .i64 l, .int .i64 y1, .int .i64 (16 - y2), .int .i64 q1, .bool false, .int .i64 q2, .int .i64 q3] 40)) = w8 at *
  go_wp2_with fail
  refine (chance_sc hs8 2 (by omega) (by omega)).mono ?_
  rintro e w9 ⟨r1, rfl, hs9, tn9⟩
  have bV9 := bV8.turn tn9 hVB
  have bR9 := bR8.turn tn9 hRB
  have tT9 := Turn.both tT8 tn9
  have s9 := tn9.size
  clear bV8 bR8 tT8 tn9 hs8
  have cV9 := bV9.cells
  have fV9 := bV9.frees
  cases r1
  · go_wp2_with fail
    refine (chance_sc hs9 3 (by omega) (by omega)).mono ?_
    rintro e w10 ⟨r2, rfl, hs10, tn10⟩
    have bV10 := bV9.turn tn10 hVB
    have bR10 := bR9.turn tn10 hRB
    have tT10 := Turn.both tT9 tn10
    have s10 := tn10.size
    clear bV9 bR9 tT9 tn10 hs9
    cases r2
    · have cR := bR10.cells
      have fR := bR10.frees
      have cV := bV10.cells
      go_wp2
      refine bodyPost_ret (v := .agg #[.int .i64 x, .int .i64 l, .int .i64 y1, .int .i64 (16 - y2), .int .i64 q1, .bool false, .int .i64 q2, .int .i64 q3]) (by simp [results, Try.results43, go_sem, cR]) rfl ?_
      refine (fun (hT : Turn (fun k => k = w.heap.size) w10 _) => ⟨x, l, y1, 16 - y2, q1, false, q2, q3, _, rfl, by omega, hs10.turn hT (fun e => hRB e.symm) hSR, Turn.trans tT10 hT (fun i hi e => by omega)⟩) ?_
      exact Turn.hereD (Turn.hereD (Turn.hereD (Turn.hereD (Turn.hereD (Turn.hereD (Turn.hereD (Turn.hereD (Turn.refl _ _) _) _) _) _) _) _) _) _
    · have hTs : Turn (fun k => k = w7.heap.size) w10 (((w10.setCell ⟨w7.heap.size, 5, none⟩ (.bool true)).setCell ⟨w7.heap.size, 6, none⟩ (.int .i64 (-1))).setCell ⟨w7.heap.size, 7, none⟩ (.int .i64 0)) := Turn.hereD (Turn.hereD (Turn.hereD (Turn.refl _ _) _) _) _
      have bV20 : Blk (((w10.setCell ⟨w7.heap.size, 5, none⟩ (.bool true)).setCell ⟨w7.heap.size, 6, none⟩ (.int .i64 (-1))).setCell ⟨w7.heap.size, 7, none⟩ (.int .i64 0)) w7.heap.size 40 #[.int .i64 x, .int .i64 l, .int .i64 y1, .int .i64 (16 - y2), .int .i64 q1, .bool true, .int .i64 (-1), .int .i64 0] := (((bV10.set 5 _).set 6 _).set 7 _)
      have bR20 := bR10.turn hTs (by omega)
      have hs20 := hs10.turn hTs (by omega) (fun x h1 h2 e => by have := hA x h1 h2; omega)
      have tT20 := Turn.trans tT10 hTs (fun i hi e => by omega)
      have z20 : w.heap.size < (((w10.setCell ⟨w7.heap.size, 5, none⟩ (.bool true)).setCell ⟨w7.heap.size, 6, none⟩ (.int .i64 (-1))).setCell ⟨w7.heap.size, 7, none⟩ (.int .i64 0)).heap.size := by have := hTs.size; omega
      have cV10 := bV10.cells
      have fV10 := bV10.frees
      go_upto_region 8 with fail
      clear bV10 bR10 hs10 tT10 hTs cV10 fV10
      generalize (((w10.setCell ⟨w7.heap.size, 5, none⟩ (.bool true)).setCell ⟨w7.heap.size, 6, none⟩ (.int .i64 (-1))).setCell ⟨w7.heap.size, 7, none⟩ (.int .i64 0)) = w20 at *
      have cR := bR20.cells
      have fR := bR20.frees
      have cV := bV20.cells
      go_wp2
      refine bodyPost_ret (v := .agg #[.int .i64 x, .int .i64 l, .int .i64 y1, .int .i64 (16 - y2), .int .i64 q1, .bool true, .int .i64 (-1), .int .i64 0]) (by simp [results, Try.results43, go_sem, cR]) rfl ?_
      refine (fun (hT : Turn (fun k => k = w.heap.size) w20 _) => ⟨x, l, y1, 16 - y2, q1, true, -1, 0, _, rfl, by omega, hs20.turn hT (fun e => hRB e.symm) hSR, Turn.trans tT20 hT (fun i hi e => by omega)⟩) ?_
      exact Turn.hereD (Turn.hereD (Turn.hereD (Turn.hereD (Turn.hereD (Turn.hereD (Turn.hereD (Turn.hereD (Turn.refl _ _) _) _) _) _) _) _) _) _
  · have hTs : Turn (fun k => k = w7.heap.size) w9 ((w9.setCell ⟨w7.heap.size, 0, none⟩ (.int .i64 0)).setCell ⟨w7.heap.size, 1, none⟩ (.int .i64 0)) := Turn.hereD (Turn.hereD (Turn.refl _ _) _) _
    have bV10 : Blk ((w9.setCell ⟨w7.heap.size, 0, none⟩ (.int .i64 0)).setCell ⟨w7.heap.size, 1, none⟩ (.int .i64 0)) w7.heap.size 40 #[.int .i64 0, .int .i64 0, .int .i64 y1, .int .i64 (16 - y2), .int .i64 q1, .bool false, .int .i64 q2, .int .i64 q3] := ((bV9.set 0 _).set 1 _)
    have bR10 := bR9.turn hTs (by omega)
    have hs10 := hs9.turn hTs (by omega) (fun x h1 h2 e => by have := hA x h1 h2; omega)
    have tT10 := Turn.trans tT9 hTs (fun i hi e => by omega)
    have z10 : w.heap.size < ((w9.setCell ⟨w7.heap.size, 0, none⟩ (.int .i64 0)).setCell ⟨w7.heap.size, 1, none⟩ (.int .i64 0)).heap.size := by have := hTs.size; omega
    go_upto_region 4 with fail
    clear bV9 bR9 hs9 tT9 hTs cV9 fV9
    generalize ((w9.setCell ⟨w7.heap.size, 0, none⟩ (.int .i64 0)).setCell ⟨w7.heap.size, 1, none⟩ (.int .i64 0)) = w10 at *
    go_wp2_with fail
    refine (chance_sc hs10 3 (by omega) (by omega)).mono ?_
    rintro e w11 ⟨r2, rfl, hs11, tn11⟩
    have bV11 := bV10.turn tn11 hVB
    have bR11 := bR10.turn tn11 hRB
    have tT11 := Turn.both tT10 tn11
    have s11 := tn11.size
    clear bV10 bR10 tT10 tn11 hs10
    cases r2
    · have cR := bR11.cells
      have fR := bR11.frees
      have cV := bV11.cells
      go_wp2
      refine bodyPost_ret (v := .agg #[.int .i64 0, .int .i64 0, .int .i64 y1, .int .i64 (16 - y2), .int .i64 q1, .bool false, .int .i64 q2, .int .i64 q3]) (by simp [results, Try.results43, go_sem, cR]) rfl ?_
      refine (fun (hT : Turn (fun k => k = w.heap.size) w11 _) => ⟨0, 0, y1, 16 - y2, q1, false, q2, q3, _, rfl, by omega, hs11.turn hT (fun e => hRB e.symm) hSR, Turn.trans tT11 hT (fun i hi e => by omega)⟩) ?_
      exact Turn.hereD (Turn.hereD (Turn.hereD (Turn.hereD (Turn.hereD (Turn.hereD (Turn.hereD (Turn.hereD (Turn.refl _ _) _) _) _) _) _) _) _) _
    · have hTs : Turn (fun k => k = w7.heap.size) w11 (((w11.setCell ⟨w7.heap.size, 5, none⟩ (.bool true)).setCell ⟨w7.heap.size, 6, none⟩ (.int .i64 (-1))).setCell ⟨w7.heap.size, 7, none⟩ (.int .i64 0)) := Turn.hereD (Turn.hereD (Turn.hereD (Turn.refl _ _) _) _) _
      have bV20 : Blk (((w11.setCell ⟨w7.heap.size, 5, none⟩ (.bool true)).setCell ⟨w7.heap.size, 6, none⟩ (.int .i64 (-1))).setCell ⟨w7.heap.size, 7, none⟩ (.int .i64 0)) w7.heap.size 40 #[.int .i64 0, .int .i64 0, .int .i64 y1, .int .i64 (16 - y2), .int .i64 q1, .bool true, .int .i64 (-1), .int .i64 0] := (((bV11.set 5 _).set 6 _).set 7 _)
      have bR20 := bR11.turn hTs (by omega)
      have hs20 := hs11.turn hTs (by omega) (fun x h1 h2 e => by have := hA x h1 h2; omega)
      have tT20 := Turn.trans tT11 hTs (fun i hi e => by omega)
      have z20 : w.heap.size < (((w11.setCell ⟨w7.heap.size, 5, none⟩ (.bool true)).setCell ⟨w7.heap.size, 6, none⟩ (.int .i64 (-1))).setCell ⟨w7.heap.size, 7, none⟩ (.int .i64 0)).heap.size := by have := hTs.size; omega
      have cV11 := bV11.cells
      have fV11 := bV11.frees
      go_upto_region 8 with fail
      clear bV11 bR11 hs11 tT11 hTs cV11 fV11
      generalize (((w11.setCell ⟨w7.heap.size, 5, none⟩ (.bool true)).setCell ⟨w7.heap.size, 6, none⟩ (.int .i64 (-1))).setCell ⟨w7.heap.size, 7, none⟩ (.int .i64 0)) = w20 at *
      have cR := bR20.cells
      have fR := bR20.frees
      have cV := bV20.cells
      go_wp2
      refine bodyPost_ret (v := .agg #[.int .i64 0, .int .i64 0, .int .i64 y1, .int .i64 (16 - y2), .int .i64 q1, .bool true, .int .i64 (-1), .int .i64 0]) (by simp [results, Try.results43, go_sem, cR]) rfl ?_
      refine (fun (hT : Turn (fun k => k = w.heap.size) w20 _) => ⟨0, 0, y1, 16 - y2, q1, true, -1, 0, _, rfl, by omega, hs20.turn hT (fun e => hRB e.symm) hSR, Turn.trans tT20 hT (fun i hi e => by omega)⟩) ?_
      exact Turn.hereD (Turn.hereD (Turn.hereD (Turn.hereD (Turn.hereD (Turn.hereD (Turn.hereD (Turn.hereD (Turn.refl _ _) _) _) _) _) _) _) _) _

end Go.Proofs.Ytidibaknahfmmaa
