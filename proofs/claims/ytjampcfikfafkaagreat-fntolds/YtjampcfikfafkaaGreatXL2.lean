/- What is proved here: what the drawing of what is told to others answers. What is proved here: what the drawing of a rule answers. What is proved here: what the drawing of a bent rule answers. What is proved here: what the drawing of a list of rules answers. What is proved here: what the drawing of a list of rules answers. -/
import Derived.Test.YtjampcfikfafkaaGreatXL1
import Derived.Deep.RegionHeld3
import Derived.Deep.CutRange
import Derived.Test.YtjampcfikfafkaaGreatR6Lib
import Derived.Maps.AppendAt
namespace Go.Proofs.YtjampcfikfafkaaGreat
open Go.RowKit Go.Sort
set_option linter.unusedVariables false

theorem Turn.undrew {S : Nat → Prop} {w v : World} (h : Turn S w.drew v) : Turn S w v := ⟨h.os, h.tape, h.output, h.size, h.block⟩
theorem Turn.hereD {w wr : World} {B j : Nat} (h : Turn (fun k => k = B) w wr) (v : Value) : Turn (fun k => k = B) w (wr.setCell ⟨B, j, none⟩ v) := h.set rfl v
theorem cell_set6d {w : World} {B C j k : Nat} {v : Value} (h : ¬ B = C) : (w.setCell ⟨B, j, none⟩ v).cell? ⟨C, k, none⟩ = w.cell? ⟨C, k, none⟩ := World.cell?_of_block (Below.heap_setCell w ⟨B, j, none⟩ v C (fun e => h e.symm))
theorem nsLit6 {w : World} {B : Nat} (h : Blk w B 2 #[.int .i64 1, .int .i64 2, .int .i64 3, .int .i64 4, .int .i64 5, .int .i64 6]) : NsAt w (some ⟨B, 0, none⟩) [1, 2, 3, 4, 5, 6] := by
  intro i z hz
  have hc := h.cells i
  refine ⟨B, 0, rfl, ?_, ?_⟩
  · rw [Nat.zero_add, hc]
    match i, hz with
    | 0, hz | 1, hz | 2, hz | 3, hz | 4, hz | 5, hz => simp at hz; subst hz; rfl
    | i + 6, hz => simp at hz
  · have := List.mem_of_getElem? hz
    simp only [List.mem_cons, List.not_mem_nil, or_false] at this
    unfold In6
    omega

end Go.Proofs.YtjampcfikfafkaaGreat

namespace Go.Proofs.YtjampcfikfafkaaGreat
open Go.RowKit Go.Sort
set_option linter.unusedVariables false

set_option maxHeartbeats 3200000 in
theorem l6Rule_sc {B n c t : Nat} {a : Option Addr} {zs : List Int} {w : World} (h : Sc w B a n c zs t) (ht : t ≤ 50000) : Calls Tryz.prog 58 #[.pointer (some ⟨B, 0, none⟩)] w fun e w' => ∃ (x l ls ms s : Int) (d : Bool) (lc pp : Int) (t' : Nat), e = .returned (.agg #[.int .i64 x, .int .i64 l, .int .i64 ls, .int .i64 ms, .int .i64 s, .bool d, .int .i64 lc, .int .i64 pp]) ∧ t' ≤ t + 40 ∧ Sc w' B a n c zs t' ∧ Turn (fun k => k = B) w w' := by
  have hlt := h.blk.lt
  have hA := h.lt_of
  have N0 : New w (w.alloc (.cells #[.int .i64 0, .int .i64 0, .int .i64 0, .int .i64 0, .int .i64 0, .bool false, .int .i64 0, .int .i64 0] 93)) := (New.refl w).alloc _
  have bR0 := Blk.mk w w.heap.size 93 #[.int .i64 0, .int .i64 0, .int .i64 0, .int .i64 0, .int .i64 0, .bool false, .int .i64 0, .int .i64 0] rfl
  have y0 : (w.alloc (.cells #[.int .i64 0, .int .i64 0, .int .i64 0, .int .i64 0, .int .i64 0, .bool false, .int .i64 0, .int .i64 0] 93)).heap.size = w.heap.size + 1 := by simp
  have hs0 := h.new N0
  have tT0 : Turn (fun k => k = B) w (w.alloc (.cells #[.int .i64 0, .int .i64 0, .int .i64 0, .int .i64 0, .int .i64 0, .bool false, .int .i64 0, .int .i64 0] 93)) := N0.turn
  have hRB : ¬ w.heap.size = B := by omega
  have hSR : ∀ x, zs ≠ [] → a = some x → ¬ x.block = w.heap.size := fun x h1 h2 e => by have := hA x h1 h2; omega
  have z0 : w.heap.size < (w.alloc (.cells #[.int .i64 0, .int .i64 0, .int .i64 0, .int .i64 0, .int .i64 0, .bool false, .int .i64 0, .int .i64 0] 93)).heap.size := by omega
  clear y0
  go_enter Tryz.func58, Tryz.ntmps58
  go_wp2_with fail
  refine (l2Prefix_sc hs0 (by omega)).mono ?_
  rintro e w1 ⟨x, l, t1, rfl, -, ht1, hs1, tn1⟩
  have bR1 := bR0.turn tn1 hRB
  have tT1 := Turn.both tT0 tn1
  have z1 : w.heap.size < w1.heap.size := by have := tn1.size; omega
  clear bR0 tT0 tn1
  go_wp2_with fail
  refine (next_sc hs1 9 (by omega) (by omega)).mono ?_
  rintro e w2 ⟨y1, rfl, -, hs2, tn2⟩
  have bR2 := bR1.turn tn2 hRB
  have tT2 := Turn.both tT1 tn2
  have z2 : w.heap.size < w2.heap.size := by have := tn2.size; omega
  clear bR1 tT1 tn2
  go_wp2_with fail
  refine (next_sc hs2 5 (by omega) (by omega)).mono ?_
  rintro e w3 ⟨y2, rfl, ⟨py2, qy2, -⟩, hs3, tn3⟩
  have bR3 := bR2.turn tn3 hRB
  have tT3 := Turn.both tT2 tn3
  have z3 : w.heap.size < w3.heap.size := by have := tn3.size; omega
  clear bR2 tT2 tn3
  have qy2 := qy2 (by omega)
  have hwy2 : IntKind.i64.wrap (16 - y2) = 16 - y2 := wrap_in (by omega)
  go_wp2_with fail
  refine (next_sc hs3 5 (by omega) (by omega)).mono ?_
  rintro e w4 ⟨y3, rfl, ⟨py3, qy3, -⟩, hs4, tn4⟩
  have bR4 := bR3.turn tn4 hRB
  have tT4 := Turn.both tT3 tn4
  have z4 : w.heap.size < w4.heap.size := by have := tn4.size; omega
  clear bR3 tT3 tn4
  have qy3 := qy3 (by omega)
  have hwy3 : IntKind.i64.wrap (1 + y3) = 1 + y3 := wrap_in (by omega)
  go_wp2_with fail
  refine (pick_sc (hs4.new ((New.refl _).alloc (.cells #[.int .i64 (0), .int .i64 (0), .int .i64 (1 + y3)] 2))) [0, 0, 1 + y3] (Blk.mk w4 w4.heap.size 2 #[.int .i64 (0), .int .i64 (0), .int .i64 (1 + y3)] rfl) 3 rfl (by omega) (by omega) (by omega)).mono ?_
  rintro e w5 ⟨q1, rfl, -, hs5, tn5⟩
  have bR5 := (bR4.alloc (.cells #[.int .i64 (0), .int .i64 (0), .int .i64 (1 + y3)] 2)).turn tn5 hRB
  have tT5 := Turn.both (Turn.andNew tT4 ((New.refl _).alloc (.cells #[.int .i64 (0), .int .i64 (0), .int .i64 (1 + y3)] 2))) tn5
  have z5 : w.heap.size < w5.heap.size := by have := tn5.size; simp at this; omega
  clear bR4 tT4 tn5
  go_wp2_with fail
  refine (pick_sc (hs5.new ((New.refl _).alloc (.cells #[.int .i64 (-1), .int .i64 (200), .int .i64 (50)] 2))) [-1, 200, 50] (Blk.mk w5 w5.heap.size 2 #[.int .i64 (-1), .int .i64 (200), .int .i64 (50)] rfl) 3 rfl (by omega) (by omega) (by omega)).mono ?_
  rintro e w6 ⟨q2, rfl, -, hs6, tn6⟩
  have bR6 := (bR5.alloc (.cells #[.int .i64 (-1), .int .i64 (200), .int .i64 (50)] 2)).turn tn6 hRB
  have tT6 := Turn.both (Turn.andNew tT5 ((New.refl _).alloc (.cells #[.int .i64 (-1), .int .i64 (200), .int .i64 (50)] 2))) tn6
  have z6 : w.heap.size < w6.heap.size := by have := tn6.size; simp at this; omega
  clear bR5 tT5 tn6
  go_wp2_with fail
  refine (pick_sc (hs6.new ((New.refl _).alloc (.cells #[.int .i64 (0), .int .i64 (0), .int .i64 (1), .int .i64 (3)] 2))) [0, 0, 1, 3] (Blk.mk w6 w6.heap.size 2 #[.int .i64 (0), .int .i64 (0), .int .i64 (1), .int .i64 (3)] rfl) 4 rfl (by omega) (by omega) (by omega)).mono ?_
  rintro e w7 ⟨q3, rfl, -, hs7, tn7⟩
  have bR7 := (bR6.alloc (.cells #[.int .i64 (0), .int .i64 (0), .int .i64 (1), .int .i64 (3)] 2)).turn tn7 hRB
  have tT7 := Turn.both (Turn.andNew tT6 ((New.refl _).alloc (.cells #[.int .i64 (0), .int .i64 (0), .int .i64 (1), .int .i64 (3)] 2))) tn7
  have z7 : w.heap.size < w7.heap.size := by have := tn7.size; simp at this; omega
  clear bR6 tT6 tn7
  go_upto_region 2 with fail
  have hal : New w7 (w7.alloc (.cells #[.int .i64 x, .int .i64 l, .int .i64 y1, .int .i64 (16 - y2), .int .i64 q1, .bool false, .int .i64 q2, .int .i64 q3] 93)) := (New.refl _).alloc _
  have bV8 : Blk (w7.alloc (.cells #[.int .i64 x, .int .i64 l, .int .i64 y1, .int .i64 (16 - y2), .int .i64 q1, .bool false, .int .i64 q2, .int .i64 q3] 93)) w7.heap.size 93 #[.int .i64 x, .int .i64 l, .int .i64 y1, .int .i64 (16 - y2), .int .i64 q1, .bool false, .int .i64 q2, .int .i64 q3] := Blk.mk _ _ _ _ rfl
  have bR8 := bR7.new hal
  have hs8 := hs7.new hal
  have tT8 := Turn.andNew tT7 hal
  have hVB : ¬ w7.heap.size = B := by have := hs7.blk.lt; omega
  have v8 : w7.heap.size < (w7.alloc (.cells #[.int .i64 x, .int .i64 l, .int .i64 y1, .int .i64 (16 - y2), .int .i64 q1, .bool false, .int .i64 q2, .int .i64 q3] 93)).heap.size := by simp
  clear bR7 hs7 tT7 hal
  generalize (w7.alloc (.cells #[.int .i64 x, .int .i64 l, .int .i64 y1, .int .i64 (16 - y2), .int .i64 q1, .bool false, .int .i64 q2, .int .i64 q3] 93)) = w8 at *
  go_wp2_with fail
  refine (chance_sc hs8 2 (by omega) (by omega)).mono ?_
  rintro e w9 ⟨r1, rfl, hs9, tn9⟩
  have bV9 := bV8.turn tn9 hVB
  have bR9 := bR8.turn tn9 hRB
  have tT9 := Turn.both tT8 tn9
  have s9 := tn9.size
  clear bV8 bR8 tT8 tn9 hs8
  have cV9 := bV9.cells
  have fV9 := bV9.frees
  cases r1
  · go_wp2_with fail
    refine (chance_sc hs9 3 (by omega) (by omega)).mono ?_
    rintro e w10 ⟨r2, rfl, hs10, tn10⟩
    have bV10 := bV9.turn tn10 hVB
    have bR10 := bR9.turn tn10 hRB
    have tT10 := Turn.both tT9 tn10
    have s10 := tn10.size
    clear bV9 bR9 tT9 tn10 hs9
    cases r2
    · have cR := bR10.cells
      have fR := bR10.frees
      have cV := bV10.cells
      go_wp2
      refine bodyPost_ret (v := .agg #[.int .i64 x, .int .i64 l, .int .i64 y1, .int .i64 (16 - y2), .int .i64 q1, .bool false, .int .i64 q2, .int .i64 q3]) (by simp [results, Tryz.results58, go_sem, cR]) rfl ?_
      refine (fun (hT : Turn (fun k => k = w.heap.size) w10 _) => ⟨x, l, y1, 16 - y2, q1, false, q2, q3, _, rfl, by omega, hs10.turn hT (fun e => hRB e.symm) hSR, Turn.trans tT10 hT (fun i hi e => by omega)⟩) ?_
      exact Turn.hereD (Turn.hereD (Turn.hereD (Turn.hereD (Turn.hereD (Turn.hereD (Turn.hereD (Turn.hereD (Turn.refl _ _) _) _) _) _) _) _) _) _
    · have hTs : Turn (fun k => k = w7.heap.size) w10 (((w10.setCell ⟨w7.heap.size, 5, none⟩ (.bool true)).setCell ⟨w7.heap.size, 6, none⟩ (.int .i64 (-1))).setCell ⟨w7.heap.size, 7, none⟩ (.int .i64 0)) := Turn.hereD (Turn.hereD (Turn.hereD (Turn.refl _ _) _) _) _
      have bV20 : Blk (((w10.setCell ⟨w7.heap.size, 5, none⟩ (.bool true)).setCell ⟨w7.heap.size, 6, none⟩ (.int .i64 (-1))).setCell ⟨w7.heap.size, 7, none⟩ (.int .i64 0)) w7.heap.size 93 #[.int .i64 x, .int .i64 l, .int .i64 y1, .int .i64 (16 - y2), .int .i64 q1, .bool true, .int .i64 (-1), .int .i64 0] := (((bV10.set 5 _).set 6 _).set 7 _)
      have bR20 := bR10.turn hTs (by omega)
      have hs20 := hs10.turn hTs (by omega) (fun x h1 h2 e => by have := hA x h1 h2; omega)
      have tT20 := Turn.trans tT10 hTs (fun i hi e => by omega)
      have z20 : w.heap.size < (((w10.setCell ⟨w7.heap.size, 5, none⟩ (.bool true)).setCell ⟨w7.heap.size, 6, none⟩ (.int .i64 (-1))).setCell ⟨w7.heap.size, 7, none⟩ (.int .i64 0)).heap.size := by have := hTs.size; omega
      have cV10 := bV10.cells
      have fV10 := bV10.frees
      go_upto_region 8 with fail
      clear bV10 bR10 hs10 tT10 hTs cV10 fV10
      generalize (((w10.setCell ⟨w7.heap.size, 5, none⟩ (.bool true)).setCell ⟨w7.heap.size, 6, none⟩ (.int .i64 (-1))).setCell ⟨w7.heap.size, 7, none⟩ (.int .i64 0)) = w20 at *
      have cR := bR20.cells
      have fR := bR20.frees
      have cV := bV20.cells
      go_wp2
      refine bodyPost_ret (v := .agg #[.int .i64 x, .int .i64 l, .int .i64 y1, .int .i64 (16 - y2), .int .i64 q1, .bool true, .int .i64 (-1), .int .i64 0]) (by simp [results, Tryz.results58, go_sem, cR]) rfl ?_
      refine (fun (hT : Turn (fun k => k = w.heap.size) w20 _) => ⟨x, l, y1, 16 - y2, q1, true, -1, 0, _, rfl, by omega, hs20.turn hT (fun e => hRB e.symm) hSR, Turn.trans tT20 hT (fun i hi e => by omega)⟩) ?_
      exact Turn.hereD (Turn.hereD (Turn.hereD (Turn.hereD (Turn.hereD (Turn.hereD (Turn.hereD (Turn.hereD (Turn.refl _ _) _) _) _) _) _) _) _) _
  · have hTs : Turn (fun k => k = w7.heap.size) w9 ((w9.setCell ⟨w7.heap.size, 0, none⟩ (.int .i64 0)).setCell ⟨w7.heap.size, 1, none⟩ (.int .i64 0)) := Turn.hereD (Turn.hereD (Turn.refl _ _) _) _
    have bV10 : Blk ((w9.setCell ⟨w7.heap.size, 0, none⟩ (.int .i64 0)).setCell ⟨w7.heap.size, 1, none⟩ (.int .i64 0)) w7.heap.size 93 #[.int .i64 0, .int .i64 0, .int .i64 y1, .int .i64 (16 - y2), .int .i64 q1, .bool false, .int .i64 q2, .int .i64 q3] := ((bV9.set 0 _).set 1 _)
    have bR10 := bR9.turn hTs (by omega)
    have hs10 := hs9.turn hTs (by omega) (fun x h1 h2 e => by have := hA x h1 h2; omega)
    have tT10 := Turn.trans tT9 hTs (fun i hi e => by omega)
    have z10 : w.heap.size < ((w9.setCell ⟨w7.heap.size, 0, none⟩ (.int .i64 0)).setCell ⟨w7.heap.size, 1, none⟩ (.int .i64 0)).heap.size := by have := hTs.size; omega
    go_upto_region 4 with fail
    clear bV9 bR9 hs9 tT9 hTs cV9 fV9
    generalize ((w9.setCell ⟨w7.heap.size, 0, none⟩ (.int .i64 0)).setCell ⟨w7.heap.size, 1, none⟩ (.int .i64 0)) = w10 at *
    go_wp2_with fail
    refine (chance_sc hs10 3 (by omega) (by omega)).mono ?_
    rintro e w11 ⟨r2, rfl, hs11, tn11⟩
    have bV11 := bV10.turn tn11 hVB
    have bR11 := bR10.turn tn11 hRB
    have tT11 := Turn.both tT10 tn11
    have s11 := tn11.size
    clear bV10 bR10 tT10 tn11 hs10
    cases r2
    · have cR := bR11.cells
      have fR := bR11.frees
      have cV := bV11.cells
      go_wp2
      refine bodyPost_ret (v := .agg #[.int .i64 0, .int .i64 0, .int .i64 y1, .int .i64 (16 - y2), .int .i64 q1, .bool false, .int .i64 q2, .int .i64 q3]) (by simp [results, Tryz.results58, go_sem, cR]) rfl ?_
      refine (fun (hT : Turn (fun k => k = w.heap.size) w11 _) => ⟨0, 0, y1, 16 - y2, q1, false, q2, q3, _, rfl, by omega, hs11.turn hT (fun e => hRB e.symm) hSR, Turn.trans tT11 hT (fun i hi e => by omega)⟩) ?_
      exact Turn.hereD (Turn.hereD (Turn.hereD (Turn.hereD (Turn.hereD (Turn.hereD (Turn.hereD (Turn.hereD (Turn.refl _ _) _) _) _) _) _) _) _) _
    · have hTs : Turn (fun k => k = w7.heap.size) w11 (((w11.setCell ⟨w7.heap.size, 5, none⟩ (.bool true)).setCell ⟨w7.heap.size, 6, none⟩ (.int .i64 (-1))).setCell ⟨w7.heap.size, 7, none⟩ (.int .i64 0)) := Turn.hereD (Turn.hereD (Turn.hereD (Turn.refl _ _) _) _) _
      have bV20 : Blk (((w11.setCell ⟨w7.heap.size, 5, none⟩ (.bool true)).setCell ⟨w7.heap.size, 6, none⟩ (.int .i64 (-1))).setCell ⟨w7.heap.size, 7, none⟩ (.int .i64 0)) w7.heap.size 93 #[.int .i64 0, .int .i64 0, .int .i64 y1, .int .i64 (16 - y2), .int .i64 q1, .bool true, .int .i64 (-1), .int .i64 0] := (((bV11.set 5 _).set 6 _).set 7 _)
      have bR20 := bR11.turn hTs (by omega)
      have hs20 := hs11.turn hTs (by omega) (fun x h1 h2 e => by have := hA x h1 h2; omega)
      have tT20 := Turn.trans tT11 hTs (fun i hi e => by omega)
      have z20 : w.heap.size < (((w11.setCell ⟨w7.heap.size, 5, none⟩ (.bool true)).setCell ⟨w7.heap.size, 6, none⟩ (.int .i64 (-1))).setCell ⟨w7.heap.size, 7, none⟩ (.int .i64 0)).heap.size := by have := hTs.size; omega
      have cV11 := bV11.cells
      have fV11 := bV11.frees
      go_upto_region 8 with fail
      clear bV11 bR11 hs11 tT11 hTs cV11 fV11
      generalize (((w11.setCell ⟨w7.heap.size, 5, none⟩ (.bool true)).setCell ⟨w7.heap.size, 6, none⟩ (.int .i64 (-1))).setCell ⟨w7.heap.size, 7, none⟩ (.int .i64 0)) = w20 at *
      have cR := bR20.cells
      have fR := bR20.frees
      have cV := bV20.cells
      go_wp2
      refine bodyPost_ret (v := .agg #[.int .i64 0, .int .i64 0, .int .i64 y1, .int .i64 (16 - y2), .int .i64 q1, .bool true, .int .i64 (-1), .int .i64 0]) (by simp [results, Tryz.results58, go_sem, cR]) rfl ?_
      refine (fun (hT : Turn (fun k => k = w.heap.size) w20 _) => ⟨0, 0, y1, 16 - y2, q1, true, -1, 0, _, rfl, by omega, hs20.turn hT (fun e => hRB e.symm) hSR, Turn.trans tT20 hT (fun i hi e => by omega)⟩) ?_
      exact Turn.hereD (Turn.hereD (Turn.hereD (Turn.hereD (Turn.hereD (Turn.hereD (Turn.hereD (Turn.hereD (Turn.refl _ _) _) _) _) _) _) _) _) _

end Go.Proofs.YtjampcfikfafkaaGreat

namespace Go.Proofs.YtjampcfikfafkaaGreat
open Go.RowKit Go.Sort
set_option linter.unusedVariables false

set_option maxHeartbeats 3200000 in
theorem l6Bent_sc {B n c t : Nat} {a : Option Addr} {zs : List Int} {w : World} (h : Sc w B a n c zs t) (ht : t ≤ 40000) : Calls Tryz.prog 60 #[.pointer (some ⟨B, 0, none⟩)] w fun e w' => ∃ (x l ls ms s : Int) (d : Bool) (lc pp : Int) (t' : Nat), e = .returned (.agg #[.int .i64 x, .int .i64 l, .int .i64 ls, .int .i64 ms, .int .i64 s, .bool d, .int .i64 lc, .int .i64 pp]) ∧ t' ≤ t + 80 ∧ Sc w' B a n c zs t' ∧ Turn (fun k => k = B) w w' := by
  have hlt := h.blk.lt
  have hA := h.lt_of
  have N0 : New w (w.alloc (.cells #[.int .i64 0, .int .i64 0, .int .i64 0, .int .i64 0, .int .i64 0, .bool false, .int .i64 0, .int .i64 0] 93)) := (New.refl w).alloc _
  have bR0 := Blk.mk w w.heap.size 93 #[.int .i64 0, .int .i64 0, .int .i64 0, .int .i64 0, .int .i64 0, .bool false, .int .i64 0, .int .i64 0] rfl
  have y0 : (w.alloc (.cells #[.int .i64 0, .int .i64 0, .int .i64 0, .int .i64 0, .int .i64 0, .bool false, .int .i64 0, .int .i64 0] 93)).heap.size = w.heap.size + 1 := by simp
  have hs0 := h.new N0
  have tT0 : Turn (fun k => k = B) w (w.alloc (.cells #[.int .i64 0, .int .i64 0, .int .i64 0, .int .i64 0, .int .i64 0, .bool false, .int .i64 0, .int .i64 0] 93)) := N0.turn
  have hRB : ¬ w.heap.size = B := by omega
  have hSR : ∀ x, zs ≠ [] → a = some x → ¬ x.block = w.heap.size := fun x h1 h2 e => by have := hA x h1 h2; omega
  have z0 : w.heap.size < (w.alloc (.cells #[.int .i64 0, .int .i64 0, .int .i64 0, .int .i64 0, .int .i64 0, .bool false, .int .i64 0, .int .i64 0] 93)).heap.size := by omega
  clear y0
  go_enter Tryz.func60, Tryz.ntmps60
  go_wp2_with fail
  refine (l6Rule_sc hs0 (by omega)).mono ?_
  rintro e w1 ⟨x, l, ls, ms, s, d, lc, pp, t1, rfl, ht1, hs1, tn1⟩
  have bR1 := bR0.turn tn1 hRB
  have tT1 := Turn.both tT0 tn1
  have z1 : w.heap.size < w1.heap.size := by have := tn1.size; omega
  clear bR0 tT0 tn1
  go_upto_region 2 with fail
  have hal : New w1 (w1.alloc (.cells #[.int .i64 x, .int .i64 l, .int .i64 ls, .int .i64 ms, .int .i64 s, .bool d, .int .i64 lc, .int .i64 pp] 93)) := (New.refl _).alloc _
  have bV2 : Blk (w1.alloc (.cells #[.int .i64 x, .int .i64 l, .int .i64 ls, .int .i64 ms, .int .i64 s, .bool d, .int .i64 lc, .int .i64 pp] 93)) w1.heap.size 93 #[.int .i64 x, .int .i64 l, .int .i64 ls, .int .i64 ms, .int .i64 s, .bool d, .int .i64 lc, .int .i64 pp] := Blk.mk _ _ _ _ rfl
  have bR2 := bR1.new hal
  have hs2 := hs1.new hal
  have tT2 := Turn.andNew tT1 hal
  have hVB : ¬ w1.heap.size = B := by have := hs1.blk.lt; omega
  have v2 : w1.heap.size < (w1.alloc (.cells #[.int .i64 x, .int .i64 l, .int .i64 ls, .int .i64 ms, .int .i64 s, .bool d, .int .i64 lc, .int .i64 pp] 93)).heap.size := by simp
  clear bR1 hs1 tT1 hal
  generalize (w1.alloc (.cells #[.int .i64 x, .int .i64 l, .int .i64 ls, .int .i64 ms, .int .i64 s, .bool d, .int .i64 lc, .int .i64 pp] 93)) = w2 at *
  go_wp2_with fail
  refine (next_sc hs2 14 (by omega) (by omega)).mono ?_
  rintro e w3 ⟨y, rfl, -, hs3, tn3⟩
  have bV3 := bV2.turn tn3 hVB
  have bR3 := bR2.turn tn3 hRB
  have tT3 := Turn.both tT2 tn3
  have s3 := tn3.size
  clear bV2 bR2 tT2 tn3 hs2
  have z3 : w.heap.size < w3.heap.size := by omega
  by_cases g0 : y = 0
  · subst g0
    go_wp2_with fail
    refine (l2Bent_sc hs3 (by omega)).mono ?_
    rintro e w4 ⟨p, q, t4, rfl, -, -, ht4, hs4, tn4⟩
    have bV4 := bV3.turn tn4 hVB
    have bR4 := bR3.turn tn4 hRB
    have tT4 := Turn.both tT3 tn4
    have s4 := tn4.size
    have z4 : w.heap.size < w4.heap.size := by omega
    clear bV3 bR3 tT3 hs3 tn4
    have hTs : Turn (fun k => k = w1.heap.size) w4 ((w4.setCell ⟨w1.heap.size, 0, none⟩ (.int .i64 p)).setCell ⟨w1.heap.size, 1, none⟩ (.int .i64 q)) := Turn.hereD (Turn.hereD (Turn.refl _ _) _) _
    have bV5 : Blk ((w4.setCell ⟨w1.heap.size, 0, none⟩ (.int .i64 p)).setCell ⟨w1.heap.size, 1, none⟩ (.int .i64 q)) w1.heap.size 93 #[.int .i64 p, .int .i64 q, .int .i64 ls, .int .i64 ms, .int .i64 s, .bool d, .int .i64 lc, .int .i64 pp] := ((bV4.set 0 _).set 1 _)
    have bR5 := bR4.turn hTs (by omega)
    have hs5 := hs4.turn hTs (by omega) (fun x h1 h2 e => by have := hA x h1 h2; omega)
    have tT5 := Turn.trans tT4 hTs (fun i hi e => by omega)
    have z5 : w.heap.size < ((w4.setCell ⟨w1.heap.size, 0, none⟩ (.int .i64 p)).setCell ⟨w1.heap.size, 1, none⟩ (.int .i64 q)).heap.size := by have := hTs.size; omega
    have cV4 := bV4.cells
    have fV4 := bV4.frees
    go_upto_region 15 with fail
    clear bV4 bR4 hs4 tT4 hTs cV4 fV4
    generalize ((w4.setCell ⟨w1.heap.size, 0, none⟩ (.int .i64 p)).setCell ⟨w1.heap.size, 1, none⟩ (.int .i64 q)) = w5 at *
    have cR := bR5.cells
    have fR := bR5.frees
    have cV := bV5.cells
    go_wp2
    refine bodyPost_ret (v := .agg #[.int .i64 p, .int .i64 q, .int .i64 ls, .int .i64 ms, .int .i64 s, .bool d, .int .i64 lc, .int .i64 pp]) (by simp [results, Tryz.results60, go_sem, cR]) rfl ?_
    refine (fun (hT : Turn (fun k => k = w.heap.size) w5 _) => ⟨p, q, ls, ms, s, d, lc, pp, _, rfl, by omega, hs5.turn hT (fun e => hRB e.symm) hSR, Turn.trans tT5 hT (fun i hi e => by omega)⟩) ?_
    exact Turn.hereD (Turn.hereD (Turn.hereD (Turn.hereD (Turn.hereD (Turn.hereD (Turn.hereD (Turn.hereD (Turn.refl _ _) _) _) _) _) _) _) _) _
  have e0 : (y == 0) = false := by simpa using g0
  by_cases g1 : y = 1
  · subst g1
    go_wp2_with fail
    refine (pick_sc (hs3.new ((New.refl _).alloc (.cells #[.int .i64 (-1), .int .i64 (17), .int .i64 (16)] 2))) [-1, 17, 16] (Blk.mk w3 w3.heap.size 2 #[.int .i64 (-1), .int .i64 (17), .int .i64 (16)] rfl) 3 rfl (by omega) (by omega) (by omega)).mono ?_
    rintro e w4 ⟨q, rfl, -, hs4, tn4⟩
    have bV4 := (bV3.alloc (.cells #[.int .i64 (-1), .int .i64 (17), .int .i64 (16)] 2)).turn tn4 hVB
    have bR4 := (bR3.alloc (.cells #[.int .i64 (-1), .int .i64 (17), .int .i64 (16)] 2)).turn tn4 hRB
    have tT4 := Turn.both (Turn.andNew tT3 ((New.refl _).alloc (.cells #[.int .i64 (-1), .int .i64 (17), .int .i64 (16)] 2))) tn4
    have s4 : w3.heap.size ≤ w4.heap.size := by have := tn4.size; simp at this; omega
    have z4 : w.heap.size < w4.heap.size := by omega
    clear bV3 bR3 tT3 hs3 tn4
    have hTs : Turn (fun k => k = w1.heap.size) w4 (w4.setCell ⟨w1.heap.size, 2, none⟩ (.int .i64 q)) := Turn.hereD (Turn.refl _ _) _
    have bV5 : Blk (w4.setCell ⟨w1.heap.size, 2, none⟩ (.int .i64 q)) w1.heap.size 93 #[.int .i64 x, .int .i64 l, .int .i64 q, .int .i64 ms, .int .i64 s, .bool d, .int .i64 lc, .int .i64 pp] := (bV4.set 2 _)
    have bR5 := bR4.turn hTs (by omega)
    have hs5 := hs4.turn hTs (by omega) (fun x h1 h2 e => by have := hA x h1 h2; omega)
    have tT5 := Turn.trans tT4 hTs (fun i hi e => by omega)
    have z5 : w.heap.size < (w4.setCell ⟨w1.heap.size, 2, none⟩ (.int .i64 q)).heap.size := by have := hTs.size; omega
    have cV4 := bV4.cells
    have fV4 := bV4.frees
    go_upto_region 15 with fail
    clear bV4 bR4 hs4 tT4 hTs cV4 fV4
    generalize (w4.setCell ⟨w1.heap.size, 2, none⟩ (.int .i64 q)) = w5 at *
    have cR := bR5.cells
    have fR := bR5.frees
    have cV := bV5.cells
    go_wp2
    refine bodyPost_ret (v := .agg #[.int .i64 x, .int .i64 l, .int .i64 q, .int .i64 ms, .int .i64 s, .bool d, .int .i64 lc, .int .i64 pp]) (by simp [results, Tryz.results60, go_sem, cR]) rfl ?_
    refine (fun (hT : Turn (fun k => k = w.heap.size) w5 _) => ⟨x, l, q, ms, s, d, lc, pp, _, rfl, by omega, hs5.turn hT (fun e => hRB e.symm) hSR, Turn.trans tT5 hT (fun i hi e => by omega)⟩) ?_
    exact Turn.hereD (Turn.hereD (Turn.hereD (Turn.hereD (Turn.hereD (Turn.hereD (Turn.hereD (Turn.hereD (Turn.refl _ _) _) _) _) _) _) _) _) _
  have e1 : (y == 1) = false := by simpa using g1
  by_cases g2 : y = 2
  · subst g2
    go_wp2_with fail
    refine (pick_sc (hs3.new ((New.refl _).alloc (.cells #[.int .i64 (-1), .int .i64 (65536)] 2))) [-1, 65536] (Blk.mk w3 w3.heap.size 2 #[.int .i64 (-1), .int .i64 (65536)] rfl) 2 rfl (by omega) (by omega) (by omega)).mono ?_
    rintro e w4 ⟨q, rfl, -, hs4, tn4⟩
    have bV4 := (bV3.alloc (.cells #[.int .i64 (-1), .int .i64 (65536)] 2)).turn tn4 hVB
    have bR4 := (bR3.alloc (.cells #[.int .i64 (-1), .int .i64 (65536)] 2)).turn tn4 hRB
    have tT4 := Turn.both (Turn.andNew tT3 ((New.refl _).alloc (.cells #[.int .i64 (-1), .int .i64 (65536)] 2))) tn4
    have s4 : w3.heap.size ≤ w4.heap.size := by have := tn4.size; simp at this; omega
    have z4 : w.heap.size < w4.heap.size := by omega
    clear bV3 bR3 tT3 hs3 tn4
    have hTs : Turn (fun k => k = w1.heap.size) w4 (w4.setCell ⟨w1.heap.size, 4, none⟩ (.int .i64 q)) := Turn.hereD (Turn.refl _ _) _
    have bV5 : Blk (w4.setCell ⟨w1.heap.size, 4, none⟩ (.int .i64 q)) w1.heap.size 93 #[.int .i64 x, .int .i64 l, .int .i64 ls, .int .i64 ms, .int .i64 q, .bool d, .int .i64 lc, .int .i64 pp] := (bV4.set 4 _)
    have bR5 := bR4.turn hTs (by omega)
    have hs5 := hs4.turn hTs (by omega) (fun x h1 h2 e => by have := hA x h1 h2; omega)
    have tT5 := Turn.trans tT4 hTs (fun i hi e => by omega)
    have z5 : w.heap.size < (w4.setCell ⟨w1.heap.size, 4, none⟩ (.int .i64 q)).heap.size := by have := hTs.size; omega
    have cV4 := bV4.cells
    have fV4 := bV4.frees
    go_upto_region 15 with fail
    clear bV4 bR4 hs4 tT4 hTs cV4 fV4
    generalize (w4.setCell ⟨w1.heap.size, 4, none⟩ (.int .i64 q)) = w5 at *
    have cR := bR5.cells
    have fR := bR5.frees
    have cV := bV5.cells
    go_wp2
    refine bodyPost_ret (v := .agg #[.int .i64 x, .int .i64 l, .int .i64 ls, .int .i64 ms, .int .i64 q, .bool d, .int .i64 lc, .int .i64 pp]) (by simp [results, Tryz.results60, go_sem, cR]) rfl ?_
    refine (fun (hT : Turn (fun k => k = w.heap.size) w5 _) => ⟨x, l, ls, ms, q, d, lc, pp, _, rfl, by omega, hs5.turn hT (fun e => hRB e.symm) hSR, Turn.trans tT5 hT (fun i hi e => by omega)⟩) ?_
    exact Turn.hereD (Turn.hereD (Turn.hereD (Turn.hereD (Turn.hereD (Turn.hereD (Turn.hereD (Turn.hereD (Turn.refl _ _) _) _) _) _) _) _) _) _
  have e2 : (y == 2) = false := by simpa using g2
  by_cases g3 : y = 3
  · subst g3
    go_wp2_with fail
    refine (pick_sc (hs3.new ((New.refl _).alloc (.cells #[.int .i64 (-2), .int .i64 (65536)] 2))) [-2, 65536] (Blk.mk w3 w3.heap.size 2 #[.int .i64 (-2), .int .i64 (65536)] rfl) 2 rfl (by omega) (by omega) (by omega)).mono ?_
    rintro e w4 ⟨q, rfl, -, hs4, tn4⟩
    have bV4 := (bV3.alloc (.cells #[.int .i64 (-2), .int .i64 (65536)] 2)).turn tn4 hVB
    have bR4 := (bR3.alloc (.cells #[.int .i64 (-2), .int .i64 (65536)] 2)).turn tn4 hRB
    have tT4 := Turn.both (Turn.andNew tT3 ((New.refl _).alloc (.cells #[.int .i64 (-2), .int .i64 (65536)] 2))) tn4
    have s4 : w3.heap.size ≤ w4.heap.size := by have := tn4.size; simp at this; omega
    have z4 : w.heap.size < w4.heap.size := by omega
    clear bV3 bR3 tT3 hs3 tn4
    have hTs : Turn (fun k => k = w1.heap.size) w4 (w4.setCell ⟨w1.heap.size, 6, none⟩ (.int .i64 q)) := Turn.hereD (Turn.refl _ _) _
    have bV5 : Blk (w4.setCell ⟨w1.heap.size, 6, none⟩ (.int .i64 q)) w1.heap.size 93 #[.int .i64 x, .int .i64 l, .int .i64 ls, .int .i64 ms, .int .i64 s, .bool d, .int .i64 q, .int .i64 pp] := (bV4.set 6 _)
    have bR5 := bR4.turn hTs (by omega)
    have hs5 := hs4.turn hTs (by omega) (fun x h1 h2 e => by have := hA x h1 h2; omega)
    have tT5 := Turn.trans tT4 hTs (fun i hi e => by omega)
    have z5 : w.heap.size < (w4.setCell ⟨w1.heap.size, 6, none⟩ (.int .i64 q)).heap.size := by have := hTs.size; omega
    have cV4 := bV4.cells
    have fV4 := bV4.frees
    go_upto_region 15 with fail
    clear bV4 bR4 hs4 tT4 hTs cV4 fV4
    generalize (w4.setCell ⟨w1.heap.size, 6, none⟩ (.int .i64 q)) = w5 at *
    have cR := bR5.cells
    have fR := bR5.frees
    have cV := bV5.cells
    go_wp2
    refine bodyPost_ret (v := .agg #[.int .i64 x, .int .i64 l, .int .i64 ls, .int .i64 ms, .int .i64 s, .bool d, .int .i64 q, .int .i64 pp]) (by simp [results, Tryz.results60, go_sem, cR]) rfl ?_
    refine (fun (hT : Turn (fun k => k = w.heap.size) w5 _) => ⟨x, l, ls, ms, s, d, q, pp, _, rfl, by omega, hs5.turn hT (fun e => hRB e.symm) hSR, Turn.trans tT5 hT (fun i hi e => by omega)⟩) ?_
    exact Turn.hereD (Turn.hereD (Turn.hereD (Turn.hereD (Turn.hereD (Turn.hereD (Turn.hereD (Turn.hereD (Turn.refl _ _) _) _) _) _) _) _) _) _
  have e3 : (y == 3) = false := by simpa using g3
  by_cases g4 : y = 4
  · subst g4
    go_wp2_with fail
    refine (pick_sc (hs3.new ((New.refl _).alloc (.cells #[.int .i64 (-1), .int .i64 (4), .int .i64 (3)] 2))) [-1, 4, 3] (Blk.mk w3 w3.heap.size 2 #[.int .i64 (-1), .int .i64 (4), .int .i64 (3)] rfl) 3 rfl (by omega) (by omega) (by omega)).mono ?_
    rintro e w4 ⟨q, rfl, -, hs4, tn4⟩
    have bV4 := (bV3.alloc (.cells #[.int .i64 (-1), .int .i64 (4), .int .i64 (3)] 2)).turn tn4 hVB
    have bR4 := (bR3.alloc (.cells #[.int .i64 (-1), .int .i64 (4), .int .i64 (3)] 2)).turn tn4 hRB
    have tT4 := Turn.both (Turn.andNew tT3 ((New.refl _).alloc (.cells #[.int .i64 (-1), .int .i64 (4), .int .i64 (3)] 2))) tn4
    have s4 : w3.heap.size ≤ w4.heap.size := by have := tn4.size; simp at this; omega
    have z4 : w.heap.size < w4.heap.size := by omega
    clear bV3 bR3 tT3 hs3 tn4
    have hTs : Turn (fun k => k = w1.heap.size) w4 (w4.setCell ⟨w1.heap.size, 7, none⟩ (.int .i64 q)) := Turn.hereD (Turn.refl _ _) _
    have bV5 : Blk (w4.setCell ⟨w1.heap.size, 7, none⟩ (.int .i64 q)) w1.heap.size 93 #[.int .i64 x, .int .i64 l, .int .i64 ls, .int .i64 ms, .int .i64 s, .bool d, .int .i64 lc, .int .i64 q] := (bV4.set 7 _)
    have bR5 := bR4.turn hTs (by omega)
    have hs5 := hs4.turn hTs (by omega) (fun x h1 h2 e => by have := hA x h1 h2; omega)
    have tT5 := Turn.trans tT4 hTs (fun i hi e => by omega)
    have z5 : w.heap.size < (w4.setCell ⟨w1.heap.size, 7, none⟩ (.int .i64 q)).heap.size := by have := hTs.size; omega
    have cV4 := bV4.cells
    have fV4 := bV4.frees
    go_upto_region 15 with fail
    clear bV4 bR4 hs4 tT4 hTs cV4 fV4
    generalize (w4.setCell ⟨w1.heap.size, 7, none⟩ (.int .i64 q)) = w5 at *
    have cR := bR5.cells
    have fR := bR5.frees
    have cV := bV5.cells
    go_wp2
    refine bodyPost_ret (v := .agg #[.int .i64 x, .int .i64 l, .int .i64 ls, .int .i64 ms, .int .i64 s, .bool d, .int .i64 lc, .int .i64 q]) (by simp [results, Tryz.results60, go_sem, cR]) rfl ?_
    refine (fun (hT : Turn (fun k => k = w.heap.size) w5 _) => ⟨x, l, ls, ms, s, d, lc, q, _, rfl, by omega, hs5.turn hT (fun e => hRB e.symm) hSR, Turn.trans tT5 hT (fun i hi e => by omega)⟩) ?_
    exact Turn.hereD (Turn.hereD (Turn.hereD (Turn.hereD (Turn.hereD (Turn.hereD (Turn.hereD (Turn.hereD (Turn.refl _ _) _) _) _) _) _) _) _) _
  have e4 : (y == 4) = false := by simpa using g4
  by_cases g5 : y = 5
  · subst g5
    have hTs : Turn (fun k => k = w1.heap.size) w3 (w3.setCell ⟨w1.heap.size, 5, none⟩ (.bool true)) := Turn.hereD (Turn.refl _ _) _
    have bV5 : Blk (w3.setCell ⟨w1.heap.size, 5, none⟩ (.bool true)) w1.heap.size 93 #[.int .i64 x, .int .i64 l, .int .i64 ls, .int .i64 ms, .int .i64 s, .bool true, .int .i64 lc, .int .i64 pp] := (bV3.set 5 _)
    have bR5 := bR3.turn hTs (by omega)
    have hs5 := hs3.turn hTs (by omega) (fun x h1 h2 e => by have := hA x h1 h2; omega)
    have tT5 := Turn.trans tT3 hTs (fun i hi e => by omega)
    have z5 : w.heap.size < (w3.setCell ⟨w1.heap.size, 5, none⟩ (.bool true)).heap.size := by have := hTs.size; omega
    have cV3 := bV3.cells
    have fV3 := bV3.frees
    go_upto_region 15 with fail
    clear bV3 bR3 hs3 tT3 hTs cV3 fV3
    generalize (w3.setCell ⟨w1.heap.size, 5, none⟩ (.bool true)) = w5 at *
    have cR := bR5.cells
    have fR := bR5.frees
    have cV := bV5.cells
    go_wp2
    refine bodyPost_ret (v := .agg #[.int .i64 x, .int .i64 l, .int .i64 ls, .int .i64 ms, .int .i64 s, .bool true, .int .i64 lc, .int .i64 pp]) (by simp [results, Tryz.results60, go_sem, cR]) rfl ?_
    refine (fun (hT : Turn (fun k => k = w.heap.size) w5 _) => ⟨x, l, ls, ms, s, true, lc, pp, _, rfl, by omega, hs5.turn hT (fun e => hRB e.symm) hSR, Turn.trans tT5 hT (fun i hi e => by omega)⟩) ?_
    exact Turn.hereD (Turn.hereD (Turn.hereD (Turn.hereD (Turn.hereD (Turn.hereD (Turn.hereD (Turn.hereD (Turn.refl _ _) _) _) _) _) _) _) _) _
  have e5 : (y == 5) = false := by simpa using g5
  have cR := bR3.cells
  have fR := bR3.frees
  have cV := bV3.cells
  go_wp2
  refine bodyPost_ret (v := .agg #[.int .i64 x, .int .i64 l, .int .i64 ls, .int .i64 ms, .int .i64 s, .bool d, .int .i64 lc, .int .i64 pp]) (by simp [results, Tryz.results60, go_sem, cR]) rfl ?_
  refine (fun (hT : Turn (fun k => k = w.heap.size) w3 _) => ⟨x, l, ls, ms, s, d, lc, pp, _, rfl, by omega, hs3.turn hT (fun e => hRB e.symm) hSR, Turn.trans tT3 hT (fun i hi e => by omega)⟩) ?_
  exact Turn.hereD (Turn.hereD (Turn.hereD (Turn.hereD (Turn.hereD (Turn.hereD (Turn.hereD (Turn.hereD (Turn.refl _ _) _) _) _) _) _) _) _) _

end Go.Proofs.YtjampcfikfafkaaGreat

namespace Go.Proofs.YtjampcfikfafkaaGreat
open Go.RowKit Go.Sort
set_option linter.unusedVariables false

/-- A list of rules in memory of the call's own, from lo on. -/
def OvR (w : World) (lo : Nat) (v : Value) (rs : List Ru) : Prop := w.ownsRow lo 93 8 v rs.length (cellsR rs)
theorem OvR.turn {w w' : World} {lo : Nat} {v : Value} {rs : List Ru} {S : Nat → Prop} (h : OvR w lo v rs) (t : Turn S w w') (hS : ∀ k, lo ≤ k → k < w.heap.size → ¬ S k) : OvR w' lo v rs := by
  refine ⟨h.1, ?_⟩
  rcases h.2 with h' | ⟨g', cap', cur, h', hb, hh, r⟩
  · exact .inl h'
  · have hlt : g' < w.heap.size := (Array.getElem?_eq_some_iff.1 hh).1
    exact .inr ⟨g', cap', cur, h', hb, (t.block g' hlt (hS g' hb hlt)).trans hh, r⟩
theorem OvR.form {w : World} {lo : Nat} {v : Value} {rs : List Ru} (h : OvR w lo v rs) : (v = .slice none 0 0 ∧ rs = []) ∨ ∃ g c, v = .slice (some ⟨g, 0, none⟩) rs.length c ∧ lo ≤ g ∧ g < w.heap.size ∧ OwR w g rs.length c rs := by
  rcases h.2 with ⟨h1, h2⟩ | ⟨g, c, cur, h1, h2, h3, r⟩
  · exact .inl ⟨h1, List.eq_nil_of_length_eq_zero h2⟩
  · have hlt : g < w.heap.size := (Array.getElem?_eq_some_iff.1 h3).1
    exact .inr ⟨g, c, h1, h2, hlt, h.1, .inr ⟨g, c, cur, rfl, Nat.zero_le _, h3, r⟩⟩
theorem OvR.of {w : World} {lo g c : Nat} {rs : List Ru} (h : OwR w g rs.length c rs) (hl : lo ≤ g) : OvR w lo (.slice (some ⟨g, 0, none⟩) rs.length c) rs := by
  refine ⟨h.1, ?_⟩
  rcases h.2 with h' | ⟨g', cap', cur, h', r⟩
  · exact .inl h'
  · have e2 := congrArg Value.ownBlock h'
    have e3 : g = g' := by simpa [Value.ownBlock] using e2
    exact .inr ⟨g', cap', cur, h', by omega, r.2⟩

theorem cellsR_snoc (rs : List Ru) (r : Ru) : cellsR (rs ++ [r]) = cellsR rs ++ r.cs := by simp [cellsR]

section
variable {P : Program} {t e : TypeId} {i : TypeInfo}
/-- Appending a rule to a list that the call owns. -/
theorem wpList_apR (w : World) {ops : Array Oper} {rest : List Oper} {o : Oper} {a : Act} {Q : Exit → Act → World → Prop} (hgd : o.guard = none) (s x : Operand)
    (ho : o.op = .call { callee := .builtin .append, args := #[s, x], argTypes := #[t, t] }) (base : Nat) (zero : Value) (ht : P.underlying t = some (.slice e)) (hi : P.info? e = some i) (hz : i.zero = some zero) (hs : i.size = 8) (hb : i.bytes = 64) (hz1 : zero.cells.size = 8)
    (v : Value) (rs : List Ru) (hsv : a.eval s = v) (hown : w.ownsRow base e 8 v rs.length (cellsR rs))
    (L : Nat) (r : Ru) (hxv : a.eval x = .slice (some ⟨L, 0, none⟩) 1 1) (hsrc : ∀ j, w.cell? ⟨L, j, none⟩ = r.cs[j]?) (hle : rs.length + 1 ≤ 1000) (hbase : base ≤ w.heap.size)
    (h : ∀ v' w', w'.ownsRow base e 8 v' (rs ++ [r]).length (cellsR (rs ++ [r])) → w.grownBy w' v.ownBlock → (v'.ownBlock = v.ownBlock ∨ v'.ownBlock = some w.heap.size) → wpList P ops Q rest (a.put o.dst v') w') : wpList P ops Q (o :: rest) a w := by
  refine wpList_plain hgd fun _ hK => ?_
  have hnews : ∀ j u, r.cs[j]? = some u → w.cell? ((⟨L, 0, none⟩ : Addr).add j) = some u := by
    intro j u hu
    rw [Addr.add_lit, Nat.zero_add, hsrc j, hu]
  obtain ⟨v', w', hr, h2, h3, _, h5⟩ := run_append_own_at (P := P) w base t o.type e i zero 8 64 ht hi hz hs hb hz1 (by decide) v rs.length (cellsR rs) hown ⟨L, 0, none⟩ 1 1 r.cs rfl hnews (by simp [Ru.cs, Value.oneCell']) (by unfold maxLen; omega) (by omega) hbase
  unfold Oper.wp execOp
  simp only [ho, resolve, invoke, builtin, Sem.run_bind, Sem.run_pure, Result.andThen_ok, List.map_toArray, List.map_cons, List.map_nil, hsv, hxv, hr]
  exact hK _ _ (h v' w' (by rw [cellsR_snoc]; simpa using h2) h3 h5)
end

end Go.Proofs.YtjampcfikfafkaaGreat

namespace Go.Proofs.YtjampcfikfafkaaGreat
open Go.RowKit Go.Sort
set_option linter.unusedVariables false

theorem Turn.grow6 {S : Nat → Prop} {a w w' : World} {row : Option Nat} (h : Turn S a w) (hg : w.grownBy w' row) (hr : ∀ k, row = some k → a.heap.size ≤ k) : Turn S a w' :=
  ⟨hg.os.trans h.os, hg.tape.trans h.tape, hg.output.trans h.output, Nat.le_trans h.size hg.size,
    fun k hk hs => (hg.block k (Nat.lt_of_lt_of_le hk h.size) (fun e => by have := hr k e.symm; omega)).trans (h.block k hk hs)⟩
theorem Turn.of_grow6 {w w' : World} {row : Option Nat} (hg : w.grownBy w' row) : Turn (fun k => row = some k) w w' := ⟨hg.os, hg.tape, hg.output, hg.size, fun k hk hs => hg.block k hk (fun e => hs e.symm)⟩
theorem OvR.blk {w : World} {lo : Nat} {v : Value} {rs : List Ru} (h : OvR w lo v rs) : ∀ k, v.ownBlock = some k → lo ≤ k := by
  intro k hk
  rcases h.form with ⟨rfl, _⟩ | ⟨g, c, rfl, hg, _⟩
  · simp [Value.ownBlock] at hk
  · simp [Value.ownBlock] at hk
    omega
theorem Tryz.infoRuD : (Tryz.prog.info? 93).map (fun i => (i.zero, i.size, i.bytes)) = some (some (.agg #[.int .i64 0, .int .i64 0, .int .i64 0, .int .i64 0, .int .i64 0, .bool false, .int .i64 0, .int .i64 0]), 8, 64) := by kernel_rfl

set_option maxHeartbeats 6400000 in
theorem l6Rules_sc {B n c t : Nat} {a : Option Addr} {zs : List Int} {w : World} (h : Sc w B a n c zs t) (ht : t ≤ 30000) : Calls Tryz.prog 25 #[.pointer (some ⟨B, 0, none⟩)] w fun e w' => ∃ (y : Option Addr) (rn rk : Nat) (rs : List Ru) (t' : Nat), e = .returned (.slice y rn rk) ∧ OvR w' w.heap.size (.slice y rn rk) rs ∧ rs.length = rn ∧ rn ≤ 9 ∧ t' ≤ t + 400 ∧ Sc w' B a n c zs t' ∧ Turn (fun k => k = B) w w' := by
  obtain ⟨i0, hi, hz0, hz1, hz2⟩ := info_parts Tryz.infoRuD
  have hlt := h.blk.lt
  have hA := h.lt_of
  have N0 : New w (w.alloc (.cells #[] 93)) := (New.refl w).alloc _
  have b0 := Blk.mk w w.heap.size 93 #[] rfl
  have ov0 : OvR (w.alloc (.cells #[] 93)) w.heap.size (.slice (some ⟨w.heap.size, 0, none⟩) 0 0) [] := ⟨rfl, .inr ⟨w.heap.size, 0, #[], rfl, Nat.le_refl _, b0, Nat.le_refl _, by unfold maxLen; omega, rfl, rfl⟩⟩
  have hs0 := h.new N0
  have tT0 : Turn (fun k => k = B) w (w.alloc (.cells #[] 93)) := N0.turn
  have hOB : ∀ k W, w.heap.size ≤ k → k < W → ¬ k = B := fun k W h1 _ e => by omega
  replace hOB : ∀ {W : Nat} (k : Nat), w.heap.size ≤ k → k < W → ¬ k = B := fun k h1 _ e => by omega
  go_enter Tryz.func25, Tryz.ntmps25
  go_wp2_with fail
  refine (next_sc hs0 4 (by omega) (by omega)).mono ?_
  rintro e w1 ⟨y, rfl, ⟨py, qy, -⟩, hs1, tn1⟩
  have qy := qy (by omega)
  have ov1 := ov0.turn tn1 hOB
  have tT1 := Turn.both tT0 tn1
  clear ov0 tT0 tn1 hs0 b0 N0
  obtain ⟨k0, rfl⟩ : ∃ k0 : Nat, y = k0 := ⟨y.toNat, by omega⟩
  go_wp2
  go_loopw [3, 4] (fun u i wr => ∃ (k t' : Nat) (rs : List Ru) (g cc : Nat), u = .slice (some ⟨g, 0, none⟩) rs.length cc ∧ i = .int .i64 (k : Int) ∧ k ≤ 3 ∧ rs.length + k ≤ 3 ∧ t' + 40 * k ≤ t + 125 ∧ OvR wr w.heap.size (.slice (some ⟨g, 0, none⟩) rs.length cc) rs ∧ Sc wr B a n c zs t' ∧ Turn (fun k => k = B) w wr) (fun _ i _ => (intOf i).toNat)
  case atStart => exact ⟨k0, _, [], w.heap.size, 0, rfl, rfl, by omega, by simp; omega, by omega, ov1, hs1, tT1⟩
  case round =>
    clear ov1 hs1 tT1
    obtain ⟨k, t1, rs, g, cc, rfl, rfl, hk, hmk, ht1, ov, hsc, tT⟩ := hrel
    generalize hml : rs.length = m at *
    have HM : Hid (rs.length = m) := hml
    have hm3 : m + k ≤ 3 := hmk
    clear hml
    by_cases hk0 : 0 < k
    · go_wp2_with fail
      refine (l6Rule_sc hsc (by omega)).mono ?_
      rintro e w2 ⟨x, l, ls, ms, s, d, lc, pp, t2, rfl, ht2, hs2, tn2⟩
      have ov2 := ov.turn tn2 hOB
      have tT2 := Turn.both tT tn2
      have hal : New w2 (w2.alloc (.cells #[.int .i64 x, .int .i64 l, .int .i64 ls, .int .i64 ms, .int .i64 s, .bool d, .int .i64 lc, .int .i64 pp] 93)) := (New.refl _).alloc _
      have bL : Blk (w2.alloc (.cells #[.int .i64 x, .int .i64 l, .int .i64 ls, .int .i64 ms, .int .i64 s, .bool d, .int .i64 lc, .int .i64 pp] 93)) w2.heap.size 93 #[.int .i64 x, .int .i64 l, .int .i64 ls, .int .i64 ms, .int .i64 s, .bool d, .int .i64 lc, .int .i64 pp] := Blk.mk _ _ _ _ rfl
      have cL : ∀ j, (w2.alloc (.cells #[.int .i64 x, .int .i64 l, .int .i64 ls, .int .i64 ms, .int .i64 s, .bool d, .int .i64 lc, .int .i64 pp] 93)).cell? ⟨w2.heap.size, j, none⟩ = (Ru.mk x l ls ms s d lc pp).cs[j]? := fun j => (bL.cells j).trans (by simp [Ru.cs])
      have ov3 := ov2.turn hal (fun _ _ _ f => f)
      have s2 := (Turn.andNew tT2 hal).size
      go_wp2_with (at_builtin; refine wpList_apR _ rfl (.tmp 12) (.tmp 15) rfl w.heap.size (.agg #[.int .i64 0, .int .i64 0, .int .i64 0, .int .i64 0, .int .i64 0, .bool false, .int .i64 0, .int .i64 0]) Tryz.underlying25 hi hz0 hz1 hz2 rfl (.slice (some ⟨g, 0, none⟩) m cc) rs rfl ov3 w2.heap.size ⟨x, l, ls, ms, s, d, lc, pp⟩ rfl cL (by rw [HM.out]; omega) s2 ?_)
      intro v3 w3 ho3 hg3 _
      have ov4 : OvR w3 w.heap.size v3 (rs ++ [⟨x, l, ls, ms, s, d, lc, pp⟩]) := by simpa [OvR] using ho3
      obtain ⟨g4, c4, rfl⟩ : ∃ g4 c4, v3 = .slice (some ⟨g4, 0, none⟩) (rs ++ [(⟨x, l, ls, ms, s, d, lc, pp⟩ : Ru)]).length c4 := by
        rcases ov4.form with ⟨_, e0⟩ | ⟨g4, c4, e1, _⟩
        · simp at e0
        · exact ⟨g4, c4, e1⟩
      have tT4 := Turn.grow6 (Turn.andNew tT2 hal) hg3 (fun k hk => ov3.blk k hk)
      have hs4 := (hs2.new hal).turn (Turn.of_grow6 hg3) (fun e => by have := ov3.blk _ e; omega) (fun x h1 h2 e => by have := hA x h1 h2; have := ov3.blk _ e; omega)
      have hlen : (rs ++ [(⟨x, l, ls, ms, s, d, lc, pp⟩ : Ru)]).length = m + 1 := by simp [HM.out]
      have hlen2 : (rs ++ [(⟨x, l, ls, ms, s, d, lc, pp⟩ : Ru)]).length + (k - 1) ≤ 3 := by rw [hlen]; omega
      clear ov ov2 ov3 ho3 hg3 tT tT2 hal bL cL hs2 tn2 hsc
      go_wp2
      go_roundw
      case rel => exact ⟨k - 1, _, rs ++ [⟨x, l, ls, ms, s, d, lc, pp⟩], g4, c4, by first | rfl | simp, by go_num, by omega, hlen2, by omega, ov4, hs4, tT4⟩
      case measure => simp [intOf]; omega
    · obtain rfl : k = 0 := by omega
      have hm3' : m ≤ 3 := by omega
      have ov0 := ov
      by_cases hm0 : m = 0
      · subst hm0
        generalize wr = w4 at *
        have hs4 := hsc
        have ov4 := ov0
        have tT4 := tT
        go_wp2_with fail
        refine (chance_sc hs4 40 (by omega) (by omega)).mono ?_
        rintro e w5 ⟨r2, rfl, hs5, tn5⟩
        have ov5 := ov4.turn tn5 hOB
        have tT5 := Turn.both tT4 tn5
        cases r2
        · go_wp2
          go_ret
          exact ⟨_, _, _, rs, _, rfl, ov5, HM.out, by omega, by omega, hs5, tT5⟩
        · go_wp2_with (at_make; refine wpList_make_full _ rfl _ _ 25 rfl w5.heap.size 93 i0 (.agg #[.int .i64 0, .int .i64 0, .int .i64 0, .int .i64 0, .int .i64 0, .bool false, .int .i64 0, .int .i64 0]) 8 Tryz.underlying25 hi hz0 hz1 _ _ _ _ 9 rfl rfl rfl rfl ?b2 ?b3 (Nat.le_refl _) ?_)
          case b2 => rw [hz2]; omega
          case b3 => unfold maxLen; omega
          intro w20 hown hgrow
          have tg : New w5 w20 := New.of_grown hgrow
          have ow : OwR w20 w5.heap.size 9 9 (List.replicate 9 ru0) := by
            have := own_base hown
            have e8 := made_ru 9
            simp only [OwR]
            rw [← e8]
            exact this
          have ov20 : OvR w20 w.heap.size (.slice (some ⟨w5.heap.size, 0, none⟩) 9 9) (List.replicate 9 ru0) := OvR.of (rs := List.replicate 9 ru0) ow tT5.size
          have hs20 := hs5.new tg
          have tT20 := Turn.andNew tT5 tg
          go_wp2
          go_ret
          exact ⟨_, _, _, List.replicate 9 ru0, _, rfl, ov20, rfl, by omega, by omega, hs20, tT20⟩
      · have hpos : 0 < m := by omega
        go_wp2_with fail
        refine (chance_sc hsc 12 (by omega) (by omega)).mono ?_
        rintro e w5 ⟨r1, rfl, hs5, tn5⟩
        have ov5 := ov.turn tn5 hOB
        have tT5 := Turn.both tT tn5
        cases r1
        · go_wp2_with fail
          refine (chance_sc hs5 40 (by omega) (by omega)).mono ?_
          rintro e w6 ⟨r2, rfl, hs6, tn6⟩
          have ov6 := ov5.turn tn6 hOB
          have tT6 := Turn.both tT5 tn6
          cases r2
          · go_wp2
            go_ret
            exact ⟨_, _, _, rs, _, rfl, ov6, HM.out, by omega, by omega, hs6, tT6⟩
          · go_wp2_with (at_make; refine wpList_make_full _ rfl _ _ 25 rfl w6.heap.size 93 i0 (.agg #[.int .i64 0, .int .i64 0, .int .i64 0, .int .i64 0, .int .i64 0, .bool false, .int .i64 0, .int .i64 0]) 8 Tryz.underlying25 hi hz0 hz1 _ _ _ _ 9 rfl rfl rfl rfl ?b2 ?b3 (Nat.le_refl _) ?_)
            case b2 => rw [hz2]; omega
            case b3 => unfold maxLen; omega
            intro w20 hown hgrow
            have tg : New w6 w20 := New.of_grown hgrow
            have ow : OwR w20 w6.heap.size 9 9 (List.replicate 9 ru0) := by
              have := own_base hown
              have e8 := made_ru 9
              simp only [OwR]
              rw [← e8]
              exact this
            have ov20 : OvR w20 w.heap.size (.slice (some ⟨w6.heap.size, 0, none⟩) 9 9) (List.replicate 9 ru0) := OvR.of (rs := List.replicate 9 ru0) ow tT6.size
            have hs20 := hs6.new tg
            have tT20 := Turn.andNew tT6 tg
            go_wp2
            go_ret
            exact ⟨_, _, _, List.replicate 9 ru0, _, rfl, ov20, rfl, by omega, by omega, hs20, tT20⟩
        · go_wp2_with fail
          refine (l6Bent_sc hs5 (by omega)).mono ?_
          rintro e w6 ⟨x, l, ls, ms, s, d, lc, pp, t6, rfl, ht6, hs6, tn6⟩
          have ov6 := ov5.turn tn6 hOB
          have tT6 := Turn.both tT5 tn6
          have ow6 : OwR w6 g m cc rs := by
            rcases ov6.form with ⟨e0, _⟩ | ⟨g', c', e1, _, _, hh⟩
            · cases e0
            · have e2 : g = g' ∧ cc = c' := by simpa [HM.out] using e1
              obtain ⟨rfl, rfl⟩ := e2
              rw [HM.out] at hh
              exact hh
          have hg0 : w.heap.size ≤ g := ov6.blk g rfl
          have hput := ow6.put 0 x l ls ms s d lc pp
          have f0 := fun j => World.ownsRow.frozenAt ow6 j
          obtain ⟨v0, c0⟩ := ow6.cell 0 (by omega)
          obtain ⟨v1, c1⟩ := ow6.cell 1 (by omega)
          obtain ⟨v2, c2⟩ := ow6.cell 2 (by omega)
          obtain ⟨v3, c3⟩ := ow6.cell 3 (by omega)
          obtain ⟨v4, c4⟩ := ow6.cell 4 (by omega)
          obtain ⟨v5, c5⟩ := ow6.cell 5 (by omega)
          obtain ⟨v6, c6⟩ := ow6.cell 6 (by omega)
          obtain ⟨v7, c7⟩ := ow6.cell 7 (by omega)
          simp only [Nat.zero_mul, Nat.zero_add] at hput
          go_upto_region 8 with fail
          have hT7 : Turn (fun k => k = g) w6 ((((((((w6.setCell ⟨g, 0, none⟩ (.int .i64 x)).setCell ⟨g, 1, none⟩ (.int .i64 l)).setCell ⟨g, 2, none⟩ (.int .i64 ls)).setCell ⟨g, 3, none⟩ (.int .i64 ms)).setCell ⟨g, 4, none⟩ (.int .i64 s)).setCell ⟨g, 5, none⟩ (.bool d)).setCell ⟨g, 6, none⟩ (.int .i64 lc)).setCell ⟨g, 7, none⟩ (.int .i64 pp)) := Turn.hereD (Turn.hereD (Turn.hereD (Turn.hereD (Turn.hereD (Turn.hereD (Turn.hereD (Turn.hereD (Turn.refl _ _) _) _) _) _) _) _) _) _
          have ov7 : OvR ((((((((w6.setCell ⟨g, 0, none⟩ (.int .i64 x)).setCell ⟨g, 1, none⟩ (.int .i64 l)).setCell ⟨g, 2, none⟩ (.int .i64 ls)).setCell ⟨g, 3, none⟩ (.int .i64 ms)).setCell ⟨g, 4, none⟩ (.int .i64 s)).setCell ⟨g, 5, none⟩ (.bool d)).setCell ⟨g, 6, none⟩ (.int .i64 lc)).setCell ⟨g, 7, none⟩ (.int .i64 pp)) w.heap.size (.slice (some ⟨g, 0, none⟩) m cc) (rs.set 0 ⟨x, l, ls, ms, s, d, lc, pp⟩) := by
            have h9 : (rs.set 0 (⟨x, l, ls, ms, s, d, lc, pp⟩ : Ru)).length = m := by simp [HM.out]
            rw [← h9] at hput ⊢
            exact OvR.of hput hg0
          have hs7 := hs6.turn hT7 (by omega) (fun x h1 h2 e => by have := hA x h1 h2; omega)
          have tT7 := Turn.trans tT6 hT7 (fun i hi e => by omega)
          have HM7 : Hid ((rs.set 0 (⟨x, l, ls, ms, s, d, lc, pp⟩ : Ru)).length = m) := by unfold Hid; simp [HM.out]
          clear ov5 ov6 tT5 tT6 tn6 hs6 hs5 ow6 hput f0 c0 c1 c2 c3 c4 c5 c6 c7 hT7 ov ov0 tT hsc tn5
          generalize ((((((((w6.setCell ⟨g, 0, none⟩ (.int .i64 x)).setCell ⟨g, 1, none⟩ (.int .i64 l)).setCell ⟨g, 2, none⟩ (.int .i64 ls)).setCell ⟨g, 3, none⟩ (.int .i64 ms)).setCell ⟨g, 4, none⟩ (.int .i64 s)).setCell ⟨g, 5, none⟩ (.bool d)).setCell ⟨g, 6, none⟩ (.int .i64 lc)).setCell ⟨g, 7, none⟩ (.int .i64 pp)) = w7 at *
          generalize rs.set 0 (⟨x, l, ls, ms, s, d, lc, pp⟩ : Ru) = qs at *
          go_wp2_with fail
          refine (chance_sc hs7 40 (by omega) (by omega)).mono ?_
          rintro e w8 ⟨r2, rfl, hs8, tn8⟩
          have ov8 := ov7.turn tn8 hOB
          have tT8 := Turn.both tT7 tn8
          cases r2
          · go_wp2
            go_ret
            exact ⟨_, _, _, qs, _, rfl, ov8, HM7.out, by omega, by omega, hs8, tT8⟩
          · go_wp2_with (at_make; refine wpList_make_full _ rfl _ _ 25 rfl w8.heap.size 93 i0 (.agg #[.int .i64 0, .int .i64 0, .int .i64 0, .int .i64 0, .int .i64 0, .bool false, .int .i64 0, .int .i64 0]) 8 Tryz.underlying25 hi hz0 hz1 _ _ _ _ 9 rfl rfl rfl rfl ?b2 ?b3 (Nat.le_refl _) ?_)
            case b2 => rw [hz2]; omega
            case b3 => unfold maxLen; omega
            intro w20 hown hgrow
            have tg : New w8 w20 := New.of_grown hgrow
            have ow : OwR w20 w8.heap.size 9 9 (List.replicate 9 ru0) := by
              have := own_base hown
              have e8 := made_ru 9
              simp only [OwR]
              rw [← e8]
              exact this
            have ov20 : OvR w20 w.heap.size (.slice (some ⟨w8.heap.size, 0, none⟩) 9 9) (List.replicate 9 ru0) := OvR.of (rs := List.replicate 9 ru0) ow tT8.size
            have hs20 := hs8.new tg
            have tT20 := Turn.andNew tT8 tg
            go_wp2
            go_ret
            exact ⟨_, _, _, List.replicate 9 ru0, _, rfl, ov20, rfl, by omega, by omega, hs20, tT20⟩

end Go.Proofs.YtjampcfikfafkaaGreat
