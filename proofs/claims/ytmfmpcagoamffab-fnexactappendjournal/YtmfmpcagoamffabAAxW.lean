/- What is proved here: for every journal and entry the law on AppendJournal returns true, and both read as they did. No condition. -/
import Derived.Test.YtmfmpcagoamffabE10Jo
import Derived.Test.YtmfmpcagoamffabE10Op
import Derived.Test.YtmfmpcagoamffabE10Jm
import Derived.Test.YtmfmpcagoamffabE10Mk
import Derived.Test.YtmfmpcagoamffabE10Ax
import Derived.Deep.RegionHeld3
import Derived.Deep.CutRange
namespace Go.Proofs.Ytmfmpcagoamffab
open Go.ChangeShapes Go.WideShapes Go.ChangeAt Go.RowKit
set_option linter.unusedVariables false
set_option linter.unusedSimpArgs false

set_option maxHeartbeats 1600000 in
theorem aax_big (a b ax : Option Addr) (n c m d l cl : Nat) (ep ki pe : Int) (w : World) (hnm : n ≤ maxLen) (hmm : m ≤ maxLen) (hlm : l ≤ maxLen) (hbig : 1048576 < n + m + l) :
    Calls Try.prog 4 #[.agg #[.slice a n c, .slice b m d], .agg #[.int .i64 ep, .int .i64 ki, .int .i64 pe, .slice ax l cl]] w fun e w' => e = .returned (.bool true) ∧ New w w' := by
  have hw := ((New.refl w).alloc (.cells #[.slice a n c, .slice b m d] 24)).alloc (.cells #[.int .i64 ep, .int .i64 ki, .int .i64 pe, .slice ax l cl] 34)
  have bE := Blk.mk (w.alloc (.cells #[.slice a n c, .slice b m d] 24)) (w.heap.size + 1) 34 #[.int .i64 ep, .int .i64 ki, .int .i64 pe, .slice ax l cl] (by simp)
  by_cases h1 : 1048576 < n + m
  · go_enter Try.func4, Try.ntmps4
    go_wp2_with fail
    refine (szJ_big a b n c m d 1048576 _ (Nat.le_refl _) hnm hmm h1).mono ?_
    rintro e w1 ⟨rfl, hn1⟩
    go_wp2
    go_ret
    exact ⟨rfl, hw.trans hn1⟩
  · obtain ⟨q, hq⟩ : ∃ q : Nat, 1048576 = n + m + q := ⟨1048576 - (n + m), by omega⟩
    have e1 : ((1048576 : Nat) : Int) - (n : Int) - (m : Int) = (q : Int) := by omega
    have hq0 : (0 : Int) ≤ (q : Int) := by omega
    go_enter Try.func4, Try.ntmps4
    go_wp2_with fail
    refine (szJ_ok a b n c m d 1048576 _ (Nat.le_refl _) (by omega)).mono ?_
    rintro e w1 ⟨rfl, hn1⟩
    rw [e1]
    have cE := (bE.new hn1).cells
    go_wp2_with fail
    refine (szEntry_big ep ki pe ax l cl q _ (by omega) hlm (by omega)).mono ?_
    rintro e w2 ⟨rfl, hn2⟩
    go_wp2
    go_ret
    exact ⟨rfl, (hw.trans hn1).trans hn2⟩

set_option maxRecDepth 100000 in
set_option maxHeartbeats 12800000 in
theorem aax_walk (a b ax : Option Addr) (n c m d l cl : Nat) (ep ki pe : Int) (zs ys es : List Int) (w : World) (h : BsAt w a zs) (k : BsAt w b ys) (q : BsAt w ax es) (hn : zs.length = n) (hm : ys.length = m) (hl : es.length = l) (hbig : n + m + l ≤ 1048576) (z ct : Int) (Z Y : List Int)
    (hI : ∀ g g2 g3 W, BsAt W (some ⟨g, 0, none⟩) zs → BsAt W (some ⟨g2, 0, none⟩) ys → BsAt W (some ⟨g3, 0, none⟩) es → g < W.heap.size → g2 < W.heap.size → Calls Try.prog 16 #[.agg #[.slice (some ⟨g, 0, none⟩) n n, .slice (some ⟨g2, 0, none⟩) m m], .agg #[.int .i64 ep, .int .i64 ki, .int .i64 pe, .slice (some ⟨g3, 0, none⟩) l l]] W fun e w' => JrAns W z ct Z Y e w')
    (hS : ∀ g g2 g3 W, BsAt W (some ⟨g, 0, none⟩) zs → BsAt W (some ⟨g2, 0, none⟩) ys → BsAt W (some ⟨g3, 0, none⟩) es → g < W.heap.size → g2 < W.heap.size → Calls Try.prog 14 #[.agg #[.slice (some ⟨g, 0, none⟩) n n, .slice (some ⟨g2, 0, none⟩) m m], .agg #[.int .i64 ep, .int .i64 ki, .int .i64 pe, .slice (some ⟨g3, 0, none⟩) l l]] W fun e w' => JrAns W z ct Z Y e w')
    (hZ : ∀ u ∈ Z, 0 ≤ u ∧ u ≤ 255) (hY : ∀ u ∈ Y, 0 ≤ u ∧ u ≤ 255) (hZl : Z.length ≤ 1048576) (hYl : Y.length ≤ 1048576) :
    Calls Try.prog 4 #[.agg #[.slice a n c, .slice b m d], .agg #[.int .i64 ep, .int .i64 ki, .int .i64 pe, .slice ax l cl]] w fun e w' => e = .returned (.bool true) ∧ New w w' := by
  have hw := ((New.refl w).alloc (.cells #[.slice a n c, .slice b m d] 24)).alloc (.cells #[.int .i64 ep, .int .i64 ki, .int .i64 pe, .slice ax l cl] 34)
  have bA0 := (Blk.mk w w.heap.size 24 #[.slice a n c, .slice b m d] rfl).alloc (.cells #[.int .i64 ep, .int .i64 ki, .int .i64 pe, .slice ax l cl] 34)
  have bE0 := Blk.mk (w.alloc (.cells #[.slice a n c, .slice b m d] 24)) (w.heap.size + 1) 34 #[.int .i64 ep, .int .i64 ki, .int .i64 pe, .slice ax l cl] (by simp)
  have hz := h.lt
  have hy := k.lt
  have hx := q.lt
  have hn' : n ≤ 1048576 := by omega
  have hm' : m ≤ 1048576 := by omega
  have hl' : l ≤ 1048576 := by omega
  obtain ⟨qq, hqq⟩ : ∃ qq : Nat, 1048576 = n + m + qq := ⟨1048576 - (n + m), by omega⟩
  have e1 : ((1048576 : Nat) : Int) - (n : Int) - (m : Int) = (qq : Int) := by omega
  have hq0 : (0 : Int) ≤ (qq : Int) := by omega
  have hq1 : (0 : Int) ≤ (qq : Int) - (l : Int) := by omega
  go_enter Try.func4, Try.ntmps4
  go_wp2_with fail
  refine (szJ_ok a b n c m d 1048576 _ (Nat.le_refl _) (by omega)).mono ?_
  rintro e w1 ⟨rfl, hn1⟩
  rw [e1]
  have bA1 := bA0.new hn1
  have bE1 := bE0.new hn1
  have cE := bE1.cells
  have hw1 := hw.trans hn1
  clear bA0 bE0 hn1 hw
  go_wp2_with fail
  refine (szEntry_ok ep ki pe ax l cl qq _ (by omega) (by omega)).mono ?_
  rintro e w2 ⟨rfl, hn2⟩
  have bA := bA1.new hn2
  have bE := bE1.new hn2
  have hw2 := hw1.trans hn2
  have lE2 := bE.lt
  clear cE bA1 bE1 hn2 e1 hqq
  go_upto_region 8 with fail
  obtain ⟨Q', hQ'⟩ : ∃ Q' : Exit → Act → World → Prop, Q' = fun e a' W => match e with | .normal => ∃ (B3 : Nat) (a3 e3 : Option Addr) (c3 d3 : Nat) (y0 y1 y4 y5 y14 y15 y16 y17 y18 y19 y20 y21 y22 y23 y24 y25 y26 y27 y28 : Value), a' = { tmps := List.toArray ((y0 : Value) :: y1 :: (.pointer (some ⟨w.heap.size, 0, none⟩)) :: (.pointer (some ⟨w.heap.size + 1, 0, none⟩)) :: y4 :: y5 :: (.pointer (some ⟨B3, 0, none⟩)) :: undef :: undef :: undef :: undef :: undef :: undef :: undef :: y14 :: y15 :: y16 :: y17 :: y18 :: y19 :: y20 :: y21 :: y22 :: y23 :: y24 :: y25 :: y26 :: y27 :: y28 :: undef :: undef :: undef :: undef :: undef :: undef :: undef :: undef :: undef :: undef :: undef :: undef :: undef :: undef :: undef :: undef :: undef :: undef :: undef :: undef :: undef :: undef :: undef :: undef :: undef :: undef :: undef :: undef :: undef :: undef :: undef :: undef :: undef :: undef :: undef :: undef :: undef :: undef :: undef :: undef :: undef :: undef :: undef :: undef :: undef :: undef :: undef :: undef :: undef :: undef :: undef :: undef :: undef :: undef :: undef :: undef :: undef :: undef :: undef :: undef :: undef :: undef :: undef :: []), defers := [] } ∧ New w2 W ∧ Blk W B3 37 #[.int .i64 z, .int .i64 ct, .slice a3 Z.length c3, .slice e3 Y.length d3] ∧ w2.heap.size ≤ B3 ∧ BsAt W a3 Z ∧ BsAt W e3 Y ∧ (∀ x, a3 = some x → w2.heap.size ≤ x.block ∧ x.block < W.heap.size) ∧ (∀ x, e3 = some x → w2.heap.size ≤ x.block ∧ x.block < W.heap.size) | _ => False := ⟨_, rfl⟩
  have KS : ∀ X, New w2 X → (∀ j, X.cell? ⟨w.heap.size, j, none⟩ = (#[.slice a n c, .slice b m d] : Array Value)[j]?) ∧ (∀ j, X.cell? ⟨w.heap.size + 1, j, none⟩ = (#[.int .i64 ep, .int .i64 ki, .int .i64 pe, .slice ax l cl] : Array Value)[j]?) := fun X hX => ⟨(bA.new hX).cells, (bE.new hX).cells⟩
  refine Code.wp_mono (Q := Q') ?hq8 ?h8
  case h8 =>
    go_region_held3 (fun X => (∀ j, X.cell? ⟨w.heap.size, j, none⟩ = (#[.slice a n c, .slice b m d] : Array Value)[j]?) ∧ (∀ j, X.cell? ⟨w.heap.size + 1, j, none⟩ = (#[.int .i64 ep, .int .i64 ki, .int .i64 pe, .slice ax l cl] : Array Value)[j]?)) (first | (refine KS _ ?_; repeat (first | (with_reducible exact nu3) | (with_reducible exact nu2) | (with_reducible exact nu1) | (with_reducible exact New.refl _) | (with_reducible refine New.alloc ?_ _) | (with_reducible refine New.drew ?_) | (with_reducible refine New.setCell ?_ ?_ _; rotate_left; (first | exact Nat.le_refl _ | (simp; done) | (simp; omega) | omega)))))
      (first
      | (go_at_call 10; refine (toJ_any a b n c m d zs ys _ ?_ ?_ hn hm hn' hm').mono ?_; (refine h.new (hw2.trans ?_); repeat (first | (with_reducible exact nu3) | (with_reducible exact nu2) | (with_reducible exact nu1) | (with_reducible exact New.refl _) | (with_reducible refine New.alloc ?_ _) | (with_reducible refine New.drew ?_) | (with_reducible refine New.setCell ?_ ?_ _; rotate_left; (first | exact Nat.le_refl _ | (simp; done) | (simp; omega) | omega)))); (refine k.new (hw2.trans ?_); repeat (first | (with_reducible exact nu3) | (with_reducible exact nu2) | (with_reducible exact nu1) | (with_reducible exact New.refl _) | (with_reducible refine New.alloc ?_ _) | (with_reducible refine New.drew ?_) | (with_reducible refine New.setCell ?_ ?_ _; rotate_left; (first | exact Nat.le_refl _ | (simp; done) | (simp; omega) | omega)))); rintro e u1 ⟨g2, k2, rfl, hg2, hk2, ho2, ho2', hu1⟩; have nu1 : New w2 u1 := New.trans (by repeat (first | (with_reducible exact nu3) | (with_reducible exact nu2) | (with_reducible exact nu1) | (with_reducible exact New.refl _) | (with_reducible refine New.alloc ?_ _) | (with_reducible refine New.drew ?_) | (with_reducible refine New.setCell ?_ ?_ _; rotate_left; (first | exact Nat.le_refl _ | (simp; done) | (simp; omega) | omega)))) hu1; have sX1 := nu1.size; have r1 := BsAt.of_own ho2 hz; have r2 := BsAt.of_own ho2' hy; have lt1 := (ho2.lt g2 rfl).2; have lt2 := (ho2'.lt k2 rfl).2; (first | (have bZ : Blk u1 w2.heap.size 37 #[.int .i64 0, .int .i64 0, .slice none 0 0, .slice none 0 0] := ((Blk.mk w2 w2.heap.size 37 #[.int .i64 0, .int .i64 0, .slice none 0 0, .slice none 0 0] rfl).new ((New.refl _).drew)).new hu1) | skip))
      | (go_at_call 15; refine (toEntry_any ep ki pe ax l cl es _ ?_ hl hl').mono ?_; (refine q.new (hw2.trans ?_); repeat (first | (with_reducible exact nu3) | (with_reducible exact nu2) | (with_reducible exact nu1) | (with_reducible exact New.refl _) | (with_reducible refine New.alloc ?_ _) | (with_reducible refine New.drew ?_) | (with_reducible refine New.setCell ?_ ?_ _; rotate_left; (first | exact Nat.le_refl _ | (simp; done) | (simp; omega) | omega)))); rintro e u2 ⟨g3, rfl, hg3, ho3, hu2⟩; have n12 : New u1 u2 := (by first | (with_reducible exact hu2) | exact ((New.refl _).alloc _).trans hu2); have nu2 : New w2 u2 := nu1.trans n12; have sX2 := nu2.size; have r3 := BsAt.of_own ho3 hx; have lt3 := (ho3.lt g3 rfl).2; have s12 := n12.size; (first | (have bZ := bZ.new n12) | (have bZ : Blk u2 u1.heap.size 37 #[.int .i64 0, .int .i64 0, .slice none 0 0, .slice none 0 0] := (Blk.mk u1 u1.heap.size 37 #[.int .i64 0, .int .i64 0, .slice none 0 0, .slice none 0 0] rfl).new hu2) | skip))
      | (go_at_call 14; refine (hS g2 k2 g3 _ ?_ ?_ ?_ ?_ ?_).mono ?_; (first | exact r1.new n12 | exact r1.new (n12.alloc _)); (first | exact r2.new n12 | exact r2.new (n12.alloc _)); (first | exact r3 | exact r3.new ((New.refl _).alloc _)); (first | omega | (simp; omega)); (first | omega | (simp; omega)); rintro e u3 ⟨a3, e3, c3, d3, rfl, q1, q2, qa, hu3⟩; have n23 : New u2 u3 := (by first | (with_reducible exact hu3) | exact ((New.refl _).alloc _).trans hu3); have nu3 : New w2 u3 := nu2.trans n23; have s23 := n23.size; obtain ⟨-, s1, l1'⟩ := q1.ow hZ; obtain ⟨-, s2, l2'⟩ := q2.ow hY; have l1 : ∀ x, a3 = some x → u2.heap.size ≤ x.block ∧ x.block < u3.heap.size := (fun x hx => (by have := l1' x hx; first | exact this | (simp at this; omega))); have l2 : ∀ x, e3 = some x → u2.heap.size ≤ x.block ∧ x.block < u3.heap.size := (fun x hx => (by have := l2' x hx; first | exact this | (simp at this; omega))); (first | (have bZ := bZ.new n23; have cZ := bZ.cells; have fZ := bZ.frees) | (have bZ : Blk u3 u2.heap.size 37 #[.int .i64 0, .int .i64 0, .slice none 0 0, .slice none 0 0] := (Blk.mk u2 u2.heap.size 37 #[.int .i64 0, .int .i64 0, .slice none 0 0, .slice none 0 0] rfl).new hu3; have cZ := bZ.cells; have fZ := bZ.frees) | skip)))
    all_goals
      have sX := nu1.size
      first
      | (with_reducible show Q' Exit.normal _ (u3.alloc _)
         have al := (New.refl u3).alloc (.cells #[.int .i64 z, .int .i64 ct, .slice a3 Z.length c3, .slice e3 Y.length d3] 37)
         have za := al.size
         rw [hQ']
         exact ⟨u3.heap.size, a3, e3, c3, d3, _, _, _, _, _, _, _, _, _, _, _, _, _, _, _, _, _, _, _, rfl, nu3.alloc _, Blk.mk u3 u3.heap.size 37 #[.int .i64 z, .int .i64 ct, .slice a3 Z.length c3, .slice e3 Y.length d3] rfl, by omega, s1.new al, s2.new al, fun x hx => ⟨by have := l1 x hx; omega, by have := l1 x hx; omega⟩, fun x hx => ⟨by have := l2 x hx; omega, by have := l2 x hx; omega⟩⟩)
      | (with_reducible show Q' Exit.normal _ ((((u3.setCell ⟨w2.heap.size, 0, none⟩ (.int .i64 z)).setCell ⟨w2.heap.size, 1, none⟩ (.int .i64 ct)).setCell ⟨w2.heap.size, 2, none⟩ (.slice a3 Z.length c3)).setCell ⟨w2.heap.size, 3, none⟩ (.slice e3 Y.length d3))
         have t1 : Turn (fun i => i = w2.heap.size) u3 ((((u3.setCell ⟨w2.heap.size, 0, none⟩ (.int .i64 z)).setCell ⟨w2.heap.size, 1, none⟩ (.int .i64 ct)).setCell ⟨w2.heap.size, 2, none⟩ (.slice a3 Z.length c3)).setCell ⟨w2.heap.size, 3, none⟩ (.slice e3 Y.length d3)) := Turn.set (S := fun i => i = w2.heap.size) (Turn.set (S := fun i => i = w2.heap.size) (Turn.set (S := fun i => i = w2.heap.size) (Turn.set (S := fun i => i = w2.heap.size) (Turn.refl _ _) rfl _) rfl _) rfl _) rfl _
         have b61 : Blk (u3.setCell ⟨w2.heap.size, 0, none⟩ (.int .i64 z)) (w2.heap.size) 37 #[.int .i64 z, .int .i64 0, .slice none 0 0, .slice none 0 0] := bZ.set 0 _
         have b62 : Blk _ (w2.heap.size) 37 #[.int .i64 z, .int .i64 ct, .slice none 0 0, .slice none 0 0] := b61.set 1 (.int .i64 ct)
         have b63 : Blk _ (w2.heap.size) 37 #[.int .i64 z, .int .i64 ct, .slice a3 Z.length c3, .slice none 0 0] := b62.set 2 (.slice a3 Z.length c3)
         have b64 : Blk _ (w2.heap.size) 37 #[.int .i64 z, .int .i64 ct, .slice a3 Z.length c3, .slice e3 Y.length d3] := b63.set 3 (.slice e3 Y.length d3)
         have zz := t1.size
         rw [hQ']
         exact ⟨w2.heap.size, a3, e3, c3, d3, _, _, _, _, _, _, _, _, _, _, _, _, _, _, _, _, _, _, _, rfl, nu3.before t1 (by intro i hi h; omega), b64, by omega, s1.turn t1 (fun x hx e => by have := l1' x hx; have := l1 x hx; first | omega | (simp at *; omega)), s2.turn t1 (fun x hx e => by have := l2' x hx; have := l2 x hx; first | omega | (simp at *; omega)), fun x hx => ⟨by have := l1 x hx; omega, by have := l1 x hx; omega⟩, fun x hx => ⟨by have := l2 x hx; omega, by have := l2 x hx; omega⟩⟩)
      | (with_reducible show Q' Exit.normal _ ((((u3.setCell ⟨u1.heap.size, 0, none⟩ (.int .i64 z)).setCell ⟨u1.heap.size, 1, none⟩ (.int .i64 ct)).setCell ⟨u1.heap.size, 2, none⟩ (.slice a3 Z.length c3)).setCell ⟨u1.heap.size, 3, none⟩ (.slice e3 Y.length d3))
         have t1 : Turn (fun i => i = u1.heap.size) u3 ((((u3.setCell ⟨u1.heap.size, 0, none⟩ (.int .i64 z)).setCell ⟨u1.heap.size, 1, none⟩ (.int .i64 ct)).setCell ⟨u1.heap.size, 2, none⟩ (.slice a3 Z.length c3)).setCell ⟨u1.heap.size, 3, none⟩ (.slice e3 Y.length d3)) := Turn.set (S := fun i => i = u1.heap.size) (Turn.set (S := fun i => i = u1.heap.size) (Turn.set (S := fun i => i = u1.heap.size) (Turn.set (S := fun i => i = u1.heap.size) (Turn.refl _ _) rfl _) rfl _) rfl _) rfl _
         have b61 : Blk (u3.setCell ⟨u1.heap.size, 0, none⟩ (.int .i64 z)) (u1.heap.size) 37 #[.int .i64 z, .int .i64 0, .slice none 0 0, .slice none 0 0] := bZ.set 0 _
         have b62 : Blk _ (u1.heap.size) 37 #[.int .i64 z, .int .i64 ct, .slice none 0 0, .slice none 0 0] := b61.set 1 (.int .i64 ct)
         have b63 : Blk _ (u1.heap.size) 37 #[.int .i64 z, .int .i64 ct, .slice a3 Z.length c3, .slice none 0 0] := b62.set 2 (.slice a3 Z.length c3)
         have b64 : Blk _ (u1.heap.size) 37 #[.int .i64 z, .int .i64 ct, .slice a3 Z.length c3, .slice e3 Y.length d3] := b63.set 3 (.slice e3 Y.length d3)
         have zz := t1.size
         rw [hQ']
         exact ⟨u1.heap.size, a3, e3, c3, d3, _, _, _, _, _, _, _, _, _, _, _, _, _, _, _, _, _, _, _, rfl, nu3.before t1 (by intro i hi h; omega), b64, by omega, s1.turn t1 (fun x hx e => by have := l1' x hx; have := l1 x hx; first | omega | (simp at *; omega)), s2.turn t1 (fun x hx e => by have := l2' x hx; have := l2 x hx; first | omega | (simp at *; omega)), fun x hx => ⟨by have := l1 x hx; omega, by have := l1 x hx; omega⟩, fun x hx => ⟨by have := l2 x hx; omega, by have := l2 x hx; omega⟩⟩)
      | (with_reducible show Q' Exit.normal _ ((((u3.setCell ⟨u2.heap.size, 0, none⟩ (.int .i64 z)).setCell ⟨u2.heap.size, 1, none⟩ (.int .i64 ct)).setCell ⟨u2.heap.size, 2, none⟩ (.slice a3 Z.length c3)).setCell ⟨u2.heap.size, 3, none⟩ (.slice e3 Y.length d3))
         have t1 : Turn (fun i => i = u2.heap.size) u3 ((((u3.setCell ⟨u2.heap.size, 0, none⟩ (.int .i64 z)).setCell ⟨u2.heap.size, 1, none⟩ (.int .i64 ct)).setCell ⟨u2.heap.size, 2, none⟩ (.slice a3 Z.length c3)).setCell ⟨u2.heap.size, 3, none⟩ (.slice e3 Y.length d3)) := Turn.set (S := fun i => i = u2.heap.size) (Turn.set (S := fun i => i = u2.heap.size) (Turn.set (S := fun i => i = u2.heap.size) (Turn.set (S := fun i => i = u2.heap.size) (Turn.refl _ _) rfl _) rfl _) rfl _) rfl _
         have b61 : Blk (u3.setCell ⟨u2.heap.size, 0, none⟩ (.int .i64 z)) (u2.heap.size) 37 #[.int .i64 z, .int .i64 0, .slice none 0 0, .slice none 0 0] := bZ.set 0 _
         have b62 : Blk _ (u2.heap.size) 37 #[.int .i64 z, .int .i64 ct, .slice none 0 0, .slice none 0 0] := b61.set 1 (.int .i64 ct)
         have b63 : Blk _ (u2.heap.size) 37 #[.int .i64 z, .int .i64 ct, .slice a3 Z.length c3, .slice none 0 0] := b62.set 2 (.slice a3 Z.length c3)
         have b64 : Blk _ (u2.heap.size) 37 #[.int .i64 z, .int .i64 ct, .slice a3 Z.length c3, .slice e3 Y.length d3] := b63.set 3 (.slice e3 Y.length d3)
         have zz := t1.size
         rw [hQ']
         exact ⟨u2.heap.size, a3, e3, c3, d3, _, _, _, _, _, _, _, _, _, _, _, _, _, _, _, _, _, _, _, rfl, nu3.before t1 (by intro i hi h; omega), b64, by omega, s1.turn t1 (fun x hx e => by have := l1' x hx; have := l1 x hx; first | omega | (simp at *; omega)), s2.turn t1 (fun x hx e => by have := l2' x hx; have := l2 x hx; first | omega | (simp at *; omega)), fun x hx => ⟨by have := l1 x hx; omega, by have := l1 x hx; omega⟩, fun x hx => ⟨by have := l2 x hx; omega, by have := l2 x hx; omega⟩⟩)
  case hq8 =>
    rintro e a' w3 hq8
    rw [hQ'] at hq8
    cases e with
    | normal =>
      obtain ⟨B3, a3, e3, c3, d3, y0, y1, y4, y5, y14, y15, y16, y17, y18, y19, y20, y21, y22, y23, y24, y25, y26, y27, y28, rfl, nw3, b3, lB3, s13, s23, g31, g32⟩ := hq8
      clear hQ' KS
      have hw3 := hw2.trans nw3
      have bA3 := bA.new nw3
      have bE3 := bE.new nw3
      have lt3 := b3.lt
      have z23 := nw3.size
      clear bA bE nw3 hw2
      have cA := bA3.cells
      go_wp2_with fail
      refine (toJ_any a b n c m d zs ys _ (h.new hw3) (k.new hw3) hn hm hn' hm').mono ?_
      rintro e w4 ⟨g4, k4, rfl, hg4, hk4, ho4, ho4', hn4⟩
      have al4 := (New.refl w4).alloc (.cells #[.slice (some ⟨g4, 0, none⟩) n n, .slice (some ⟨k4, 0, none⟩) m m] 27)
      have n4 := hn4.trans al4
      have bA4 := bA3.new n4
      have bE4 := bE3.new n4
      have b34 := b3.new n4
      have b4 := Blk.mk w4 w4.heap.size 27 #[.slice (some ⟨g4, 0, none⟩) n n, .slice (some ⟨k4, 0, none⟩) m m] rfl
      have hw4 := hw3.trans n4
      have s14 := s13.new n4
      have s24 := s23.new n4
      have oA4 := own_new ho4 al4
      have oB4 := own_new ho4' al4
      have lA := (ho4.lt g4 rfl).2
      have lB := (ho4'.lt k4 rfl).2
      have z34 := hn4.size
      have y4 : (w4.alloc (.cells #[.slice (some ⟨g4, 0, none⟩) n n, .slice (some ⟨k4, 0, none⟩) m m] 27)).heap.size = w4.heap.size + 1 := by simp
      clear bA3 bE3 b3 cA s13 s23 ho4 ho4' hn4 n4
      go_upto_region 10 with fail
      generalize w4.alloc (.cells #[.slice (some ⟨g4, 0, none⟩) n n, .slice (some ⟨k4, 0, none⟩) m m] 27) = v4 at *
      have HY4 : Hid (v4.heap.size = w4.heap.size + 1) := y4
      clear y4
      have cE := bE4.cells
      go_wp2_with fail
      refine (toEntry_any ep ki pe ax l cl es _ (q.new hw4) hl hl').mono ?_
      rintro e w5 ⟨g5, rfl, hg5, ho5, hn5⟩
      have al5 := (New.refl w5).alloc (.cells #[.int .i64 ep, .int .i64 ki, .int .i64 pe, .slice (some ⟨g5, 0, none⟩) l l] 41)
      have n5 := hn5.trans al5
      have bA5 := bA4.new n5
      have bE5 := bE4.new n5
      have b35 := b34.new n5
      have b45 := b4.new n5
      have b5 := Blk.mk w5 w5.heap.size 41 #[.int .i64 ep, .int .i64 ki, .int .i64 pe, .slice (some ⟨g5, 0, none⟩) l l] rfl
      have hw5 := hw4.trans n5
      have s15 := s14.new n5
      have s25 := s24.new n5
      have oA5 := own_new oA4 n5
      have oB5 := own_new oB4 n5
      have oX5 := own_new ho5 al5
      have lX := (ho5.lt g5 rfl).2
      have z45 := hn5.size
      have y5 : (w5.alloc (.cells #[.int .i64 ep, .int .i64 ki, .int .i64 pe, .slice (some ⟨g5, 0, none⟩) l l] 41)).heap.size = w5.heap.size + 1 := by simp
      clear bA4 bE4 b34 b4 cE s14 s24 oA4 oB4 ho5 hn5 n5
      go_upto_region 11 with fail
      generalize w5.alloc (.cells #[.int .i64 ep, .int .i64 ki, .int .i64 pe, .slice (some ⟨g5, 0, none⟩) l l] 41) = v5 at *
      have HY5 : Hid (v5.heap.size = w5.heap.size + 1) := y5
      clear y5
      have c4 := b45.cells
      have c5 := b5.cells
      go_wp2_with fail
      refine (hI g4 k4 g5 _ (BsAt.of_own oA5 hz) (BsAt.of_own oB5 hy) (BsAt.of_own oX5 hx) (by have := HY4.out; have := HY5.out; omega) (by have := HY4.out; have := HY5.out; omega)).mono ?_
      rintro e w6 ⟨a6, e6, c6, d6, rfl, q1, q2, qa, hn6⟩
      obtain ⟨o1, -, l61⟩ := q1.ow hZ
      obtain ⟨o2, -, l62⟩ := q2.ow hY
      have al6 := (New.refl w6).alloc (.cells #[.int .i64 z, .int .i64 ct, .slice a6 Z.length c6, .slice e6 Y.length d6] 37)
      have n6 := hn6.trans al6
      have bA6 := bA5.new n6
      have bE6 := bE5.new n6
      have b36 := b35.new n6
      have b46 := b45.new n6
      have b56 := b5.new n6
      have b6 := Blk.mk w6 w6.heap.size 37 #[.int .i64 z, .int .i64 ct, .slice a6 Z.length c6, .slice e6 Y.length d6] rfl
      have hw6 := hw5.trans n6
      have s16 := s15.new n6
      have s26 := s25.new n6
      have oA6 := own_new oA5 n6
      have oB6 := own_new oB5 n6
      have oX6 := own_new oX5 n6
      have o16 := o1.new al6
      have o26 := o2.new al6
      have z56 := hn6.size
      have y6 : (w6.alloc (.cells #[.int .i64 z, .int .i64 ct, .slice a6 Z.length c6, .slice e6 Y.length d6] 37)).heap.size = w6.heap.size + 1 := by simp
      have HS : Hid (w.heap.size + 1 < w3.heap.size ∧ B3 < w3.heap.size ∧ w3.heap.size ≤ g4 ∧ g4 < k4 ∧ k4 < w4.heap.size ∧ w4.heap.size < g5 ∧ g5 < w5.heap.size ∧ w5.heap.size < w6.heap.size) := by
        have := HY4.out
        have := HY5.out
        unfold Hid
        omega
      have g61 : ∀ x, a6 = some x → w5.heap.size < x.block ∧ x.block < w6.heap.size := fun x hx => by have := l61 x hx; have := HY5.out; omega
      have g62 : ∀ x, e6 = some x → w5.heap.size < x.block ∧ x.block < w6.heap.size := fun x hx => by have := l62 x hx; have := HY5.out; omega
      clear bA5 bE5 b35 b45 b5 c4 c5 s15 s25 oA5 oB5 oX5 o1 o2 q1 q2 l61 l62 hn6 n6 al4 al5 hg4 hk4 hg5 z23 z34 z45 z56 lA lB lX lt3 lB3 lE2
      go_upto_region 12 with fail
      generalize w6.alloc (.cells #[.int .i64 z, .int .i64 ct, .slice a6 Z.length c6, .slice e6 Y.length d6] 37) = v6 at *
      have HY6 : Hid (v6.heap.size = w6.heap.size + 1) := y6
      clear y6
      have c3' := b36.cells
      have c6' := b6.cells
      go_wp2_with fail
      refine (eqJR_any z ct a6 e6 a3 e3 Z.length c6 Y.length d6 c3 d3 Z Y _ (o16.bs hZ) (o26.bs hY) s16 s26 rfl rfl hZl hYl).mono ?_
      rintro e w7 ⟨rfl, hn7⟩
      have bA7 := bA6.new hn7
      have bE7 := bE6.new hn7
      have b37 := b36.new hn7
      have b47 := b46.new hn7
      have b57 := b56.new hn7
      have b67 := b6.new hn7
      have hw7 := hw6.trans hn7
      have s17 := s16.new hn7
      have s27 := s26.new hn7
      have oA7 := own_new oA6 hn7
      have oB7 := own_new oB6 hn7
      have oX7 := own_new oX6 hn7
      have o17 := o16.new hn7
      have o27 := o26.new hn7
      have z67 := hn7.size
      clear c3' c6' bA6 bE6 b36 b46 b56 b6 s16 s26 oA6 oB6 oX6 o16 o26 hn7 al6
      have cA := bA7.cells
      have cB := b47.cells
      have cAd := (bA7.new ((New.refl _).drew)).cells
      have cBd := (b47.new ((New.refl _).drew)).cells
      go_wp2_with fail
      go_region_held3 (fun W => (∀ j, W.cell? ⟨w.heap.size, j, none⟩ = (#[.slice a n c, .slice b m d] : Array Value)[j]?) ∧ (∀ j, W.cell? ⟨w4.heap.size, j, none⟩ = (#[.slice (some ⟨g4, 0, none⟩) n n, .slice (some ⟨k4, 0, none⟩) m m] : Array Value)[j]?)) (first | exact ⟨cA, cB⟩ | exact ⟨cAd, cBd⟩ | exact ⟨cA7, cB7⟩ | exact ⟨cA8, cB8⟩)
        (first
          | (go_at_call 10; refine (toJ_any a b n c m d zs ys _ ?_ ?_ hn hm hn' hm').mono ?_; exact (h.new hw7).new ((New.refl _).drew); exact (k.new hw7).new ((New.refl _).drew); rintro e w8 ⟨g7, k7, rfl, hg7, hk7, ho7, ho7', hn8⟩; have n8 : New w7 w8 := ((New.refl _).drew).trans hn8; have cA7 := (bA7.new n8).cells; have cB7 := (b47.new n8).cells)
          | (go_at_call 12; refine (eqJ_any _ _ _ _ n n m m n m zs ys _ ((BsAt.of_own oA7 hz).new n8) ((BsAt.of_own oB7 hy).new n8) (BsAt.of_own ho7 hz) (BsAt.of_own ho7' hy) hn hm hn' hm').mono ?_; rintro e w9 ⟨rfl, hn9⟩; have n9 := n8.trans hn9; have cA8 := (bA7.new n9).cells; have cB8 := (b47.new n9).cells))
      have bA9 := bA7.new n9
      have bE9 := bE7.new n9
      have b39 := b37.new n9
      have b49 := b47.new n9
      have b59 := b57.new n9
      have b69 := b67.new n9
      have hw9 := hw7.trans n9
      have s19 := s17.new n9
      have s29 := s27.new n9
      have oA9 := own_new oA7 n9
      have oB9 := own_new oB7 n9
      have oX9 := own_new oX7 n9
      have o19 := o17.new n9
      have o29 := o27.new n9
      have z79 := n9.size
      clear cA cB cAd cBd cA7 cB7 cA8 cB8 bA7 bE7 b37 b47 b57 b67 s17 s27 oA7 oB7 oX7 o17 o27 n9 n8 hn8 hn9 ho7 ho7' hg7 hk7
      have cA := bE9.cells
      have cB := b59.cells
      have cAd := (bE9.new ((New.refl _).drew)).cells
      have cBd := (b59.new ((New.refl _).drew)).cells
      go_wp2_with fail
      go_region_held3 (fun W => (∀ j, W.cell? ⟨w.heap.size + 1, j, none⟩ = (#[.int .i64 ep, .int .i64 ki, .int .i64 pe, .slice ax l cl] : Array Value)[j]?) ∧ (∀ j, W.cell? ⟨w5.heap.size, j, none⟩ = (#[.int .i64 ep, .int .i64 ki, .int .i64 pe, .slice (some ⟨g5, 0, none⟩) l l] : Array Value)[j]?)) (first | exact ⟨cA, cB⟩ | exact ⟨cAd, cBd⟩ | exact ⟨cA7, cB7⟩ | exact ⟨cA8, cB8⟩)
        (first
          | (go_at_call 15; refine (toEntry_any ep ki pe ax l cl es _ ?_ hl hl').mono ?_; exact (q.new hw9).new ((New.refl _).drew); rintro e w10 ⟨g7, rfl, hg7, ho7, hn10⟩; have n10 : New w9 w10 := ((New.refl _).drew).trans hn10; have cA7 := (bE9.new n10).cells; have cB7 := (b59.new n10).cells)
          | (go_at_call 18; refine (eqEntry_any ep ki pe _ _ l l l es _ ((BsAt.of_own oX9 hx).new n10) (BsAt.of_own ho7 hx) hl hl').mono ?_; rintro e w11 ⟨rfl, hn11⟩; have n11 := n10.trans hn11; have cA8 := (bE9.new n11).cells; have cB8 := (b59.new n11).cells))
      have bA11 := bA9.new n11
      have bE11 := bE9.new n11
      have b311 := b39.new n11
      have b411 := b49.new n11
      have b511 := b59.new n11
      have b611 := b69.new n11
      have hw11 := hw9.trans n11
      have s111 := s19.new n11
      have s211 := s29.new n11
      have oA11 := own_new oA9 n11
      have oB11 := own_new oB9 n11
      have oX11 := own_new oX9 n11
      have o111 := o19.new n11
      have o211 := o29.new n11
      have z911 := n11.size
      clear cA cB cAd cBd cA7 cB7 cA8 cB8 bA9 bE9 b39 b49 b59 b69 s19 s29 oA9 oB9 oX9 o19 o29 n11 n10 hn10 hn11 ho7 hg7
      have cB := b411.cells
      go_wp2_with fail
      refine (markJ_any (some ⟨g4, 0, none⟩) (some ⟨k4, 0, none⟩) n n m m 1 zs ys _ (OwAt.of_own oA11) (OwAt.of_own oB11) (by intro x y hx' hy' e; cases hx'; cases hy'; simp at e; have := HS.out; omega) (by intro x hx'; cases hx'; simp; have := HS.out; have := HY6.out; omega) (by omega) (by omega) (by omega) (by omega)).mono ?_
      rintro e w12 ⟨rfl, -, -, ht12⟩
      have inX : ∀ i, (inA (some ⟨g4, 0, none⟩) i ∨ inA (some ⟨k4, 0, none⟩) i) → w3.heap.size ≤ i ∧ i < w4.heap.size := by rintro i (⟨x, hx', e⟩ | ⟨x, hx', e⟩) <;> (cases hx'; simp at e; have := HS.out; omega)
      have bA12 := bA11.turn ht12 (fun hi => by have := inX _ hi; have := HS.out; omega)
      have bE12 := bE11.turn ht12 (fun hi => by have := inX _ hi; have := HS.out; omega)
      have b312 := b311.turn ht12 (fun hi => by have := inX _ hi; have := HS.out; omega)
      have b512 := b511.turn ht12 (fun hi => by have := inX _ hi; have := HS.out; omega)
      have b612 := b611.turn ht12 (fun hi => by have := inX _ hi; have := HS.out; omega)
      have hw12 : New w w12 := hw11.before ht12 (fun i hi e => by have := inX _ e; have := HS.out; omega)
      have s112 := s111.turn ht12 (fun x hx' hi => by have := inX _ hi; have := g31 x hx'; omega)
      have s212 := s211.turn ht12 (fun x hx' hi => by have := inX _ hi; have := g32 x hx'; omega)
      have oX12 := own_turn oX11 ht12 (fun hi => by have := inX _ hi; have := HS.out; omega)
      have o112 := o111.turn ht12 (fun x hx' hi => by have := inX _ hi; have := g61 x hx'; have := HS.out; omega)
      have o212 := o211.turn ht12 (fun x hx' hi => by have := inX _ hi; have := g62 x hx'; have := HS.out; omega)
      have z1112 := ht12.size
      clear cB bA11 bE11 b311 b411 b511 b611 ht12 s111 s211 oA11 oB11 oX11 o111 o211 inX
      have cB := b512.cells
      go_wp2_with fail
      refine (markEn_any ep ki pe (some ⟨g5, 0, none⟩) l l (1 + n + m) es _ (OwAt.of_own oX12) (by omega) (by omega) (by omega)).mono ?_
      rintro e w13 ⟨rfl, -, ht13⟩
      have inY : ∀ i, inA (some ⟨g5, 0, none⟩) i → w4.heap.size < i ∧ i < w5.heap.size := by rintro i ⟨x, hx', e⟩; cases hx'; simp at e; have := HS.out; omega
      have bA13 := bA12.turn ht13 (fun hi => by have := inY _ hi; have := HS.out; omega)
      have bE13 := bE12.turn ht13 (fun hi => by have := inY _ hi; have := HS.out; omega)
      have b313 := b312.turn ht13 (fun hi => by have := inY _ hi; have := HS.out; omega)
      have b613 := b612.turn ht13 (fun hi => by have := inY _ hi; have := HS.out; omega)
      have hw13 : New w w13 := hw12.before ht13 (fun i hi e => by have := inY _ e; have := HS.out; omega)
      have s113 := s112.turn ht13 (fun x hx' hi => by have := inY _ hi; have := g31 x hx'; have := HS.out; omega)
      have s213 := s212.turn ht13 (fun x hx' hi => by have := inY _ hi; have := g32 x hx'; have := HS.out; omega)
      have o113 := o112.turn ht13 (fun x hx' hi => by have := inY _ hi; have := g61 x hx'; omega)
      have o213 := o212.turn ht13 (fun x hx' hi => by have := inY _ hi; have := g62 x hx'; omega)
      have z1213 := ht13.size
      clear cB bA12 bE12 b312 b512 b612 ht13 s112 s212 oX12 o112 o212 inY
      have c3' := b313.cells
      have c6' := b613.cells
      go_wp2_with fail
      refine (eqJR_any z ct a6 e6 a3 e3 Z.length c6 Y.length d6 c3 d3 Z Y _ (o113.bs hZ) (o213.bs hY) s113 s213 rfl rfl hZl hYl).mono ?_
      rintro e w14 ⟨rfl, hn14⟩
      have bA14 := bA13.new hn14
      have bE14 := bE13.new hn14
      have b314 := b313.new hn14
      have b614 := b613.new hn14
      have hw14 := hw13.trans hn14
      have s114 := s113.new hn14
      have s214 := s213.new hn14
      have o114 := o113.new hn14
      have o214 := o213.new hn14
      have z1314 := hn14.size
      clear c3' c6' bA13 bE13 b313 b613 s113 s213 o113 o213 hn14
      have c6' := b614.cells
      go_wp2_with fail
      refine (markJR_any z ct a6 e6 Z.length c6 Y.length d6 1 Z Y _ o114 o214 qa (fun x hx' => by have := (g61 x hx').2; have := HY6.out; omega) (by omega) (by omega) (by omega) (by omega)).mono ?_
      rintro e w15 ⟨rfl, o11, o21, ht15⟩
      have inG : ∀ i, (inA a6 i ∨ inA e6 i) → w5.heap.size < i ∧ i < w6.heap.size := by rintro i (⟨x, hx', e⟩ | ⟨x, hx', e⟩); (rw [e]; exact g61 x hx'); (rw [e]; exact g62 x hx')
      have bA15 := bA14.turn ht15 (fun hi => by have := inG _ hi; have := HS.out; omega)
      have bE15 := bE14.turn ht15 (fun hi => by have := inG _ hi; have := HS.out; omega)
      have b315 := b314.turn ht15 (fun hi => by have := inG _ hi; have := HS.out; omega)
      have b615 := b614.turn ht15 (fun hi => by have := inG _ hi; omega)
      have hw15 : New w w15 := hw14.before ht15 (fun i hi e => by have := inG _ e; have := HS.out; omega)
      have s115 := s114.turn ht15 (fun x hx' hi => by have := inG _ hi; have := g31 x hx'; have := HS.out; omega)
      have s215 := s214.turn ht15 (fun x hx' hi => by have := inG _ hi; have := g32 x hx'; have := HS.out; omega)
      have m1 := o11.bs (marks_bd _ _)
      have m2 := o21.bs (marks_bd _ _)
      clear c6' bA14 bE14 b314 b614 ht15 s114 s214 o114 o214 o11 o21 inG
      have c6' := b615.cells
      go_wp2_with fail
      refine (heldJR_any z ct a6 e6 Z.length c6 Y.length d6 1 _ m1 m2 (by omega) (by omega) (by omega) (by omega)).mono ?_
      rintro e w17 ⟨rfl, hn17⟩
      have bA := bA15.new hn17
      have bE := bE15.new hn17
      have b317 := b315.new hn17
      have b617 := b615.new hn17
      have hw17 := hw15.trans hn17
      have s117 := s115.new hn17
      have s217 := s215.new hn17
      have m117 := m1.new hn17
      have m217 := m2.new hn17
      have lE17 := bE.lt
      have hqm : ((1 : Int) + (Z.length : Int) + (Y.length : Int) != 1 + (Z.length : Int) + (Y.length : Int)) = false := by simp
      clear c6' bA15 bE15 b315 b615 s115 s215 m1 m2 hn17
      go_upto_region 31 with fail
      obtain ⟨Q', hQ'⟩ : ∃ Q' : Exit → Act → World → Prop, Q' = fun e a' W => match e with | .normal => ∃ (B9 : Nat) (a9 e9 : Option Addr) (c9 d9 : Nat) (y0 y1 y4 y5 y7 y8 y10 y12 y14 y15 y16 y17 y18 y19 y20 y21 y22 y23 y24 y25 y26 y27 y28 y29 y30 y31 y32 y33 y34 y35 y36 y37 y38 y39 y40 y41 y42 y43 y44 y45 y46 y47 y48 y49 y50 y51 y52 y53 y54 y55 y56 y57 y58 y59 y60 y61 y62 y63 y64 y65 y66 y67 y68 y69 y70 y71 y72 y73 y74 y75 y76 y77 y78 y79 : Value), a' = { tmps := List.toArray ((y0 : Value) :: y1 :: (.pointer (some ⟨w.heap.size, 0, none⟩)) :: (.pointer (some ⟨w.heap.size + 1, 0, none⟩)) :: y4 :: y5 :: (.pointer (some ⟨B3, 0, none⟩)) :: y7 :: y8 :: (.pointer (some ⟨w6.heap.size, 0, none⟩)) :: y10 :: (.int .i64 (1 + (Z.length : Int) + (Y.length : Int))) :: y12 :: (.pointer (some ⟨B9, 0, none⟩)) :: y14 :: y15 :: y16 :: y17 :: y18 :: y19 :: y20 :: y21 :: y22 :: y23 :: y24 :: y25 :: y26 :: y27 :: y28 :: y29 :: y30 :: y31 :: y32 :: y33 :: y34 :: y35 :: y36 :: y37 :: y38 :: y39 :: y40 :: y41 :: y42 :: y43 :: y44 :: y45 :: y46 :: y47 :: y48 :: y49 :: y50 :: y51 :: y52 :: y53 :: y54 :: y55 :: y56 :: y57 :: y58 :: y59 :: y60 :: y61 :: y62 :: y63 :: y64 :: y65 :: y66 :: y67 :: y68 :: y69 :: y70 :: y71 :: y72 :: y73 :: y74 :: y75 :: y76 :: y77 :: y78 :: y79 :: undef :: undef :: undef :: undef :: undef :: undef :: undef :: undef :: undef :: undef :: undef :: undef :: []), defers := [] } ∧ New w17 W ∧ Blk W B9 37 #[.int .i64 z, .int .i64 ct, .slice a9 Z.length c9, .slice e9 Y.length d9] ∧ w17.heap.size ≤ B9 ∧ BsAt W a9 Z ∧ BsAt W e9 Y ∧ (∀ x, a9 = some x → w17.heap.size ≤ x.block ∧ x.block < W.heap.size) ∧ (∀ x, e9 = some x → w17.heap.size ≤ x.block ∧ x.block < W.heap.size) | _ => False := ⟨_, rfl⟩
      have KS : ∀ X, New w17 X → (∀ j, X.cell? ⟨w.heap.size, j, none⟩ = (#[.slice a n c, .slice b m d] : Array Value)[j]?) ∧ (∀ j, X.cell? ⟨w.heap.size + 1, j, none⟩ = (#[.int .i64 ep, .int .i64 ki, .int .i64 pe, .slice ax l cl] : Array Value)[j]?) := fun X hX => ⟨(bA.new hX).cells, (bE.new hX).cells⟩
      refine Code.wp_mono (Q := Q') ?hq31 ?h31
      case h31 =>
        go_region_held3 (fun X => (∀ j, X.cell? ⟨w.heap.size, j, none⟩ = (#[.slice a n c, .slice b m d] : Array Value)[j]?) ∧ (∀ j, X.cell? ⟨w.heap.size + 1, j, none⟩ = (#[.int .i64 ep, .int .i64 ki, .int .i64 pe, .slice ax l cl] : Array Value)[j]?)) (first | (refine KS _ ?_; repeat (first | (with_reducible exact nu3) | (with_reducible exact nu2) | (with_reducible exact nu1) | (with_reducible exact New.refl _) | (with_reducible refine New.alloc ?_ _) | (with_reducible refine New.drew ?_) | (with_reducible refine New.setCell ?_ ?_ _; rotate_left; (first | exact Nat.le_refl _ | (simp; done) | (simp; omega) | omega)))))
          (first
          | (go_at_call 10; refine (toJ_any a b n c m d zs ys _ ?_ ?_ hn hm hn' hm').mono ?_; (refine h.new (hw17.trans ?_); repeat (first | (with_reducible exact nu3) | (with_reducible exact nu2) | (with_reducible exact nu1) | (with_reducible exact New.refl _) | (with_reducible refine New.alloc ?_ _) | (with_reducible refine New.drew ?_) | (with_reducible refine New.setCell ?_ ?_ _; rotate_left; (first | exact Nat.le_refl _ | (simp; done) | (simp; omega) | omega)))); (refine k.new (hw17.trans ?_); repeat (first | (with_reducible exact nu3) | (with_reducible exact nu2) | (with_reducible exact nu1) | (with_reducible exact New.refl _) | (with_reducible refine New.alloc ?_ _) | (with_reducible refine New.drew ?_) | (with_reducible refine New.setCell ?_ ?_ _; rotate_left; (first | exact Nat.le_refl _ | (simp; done) | (simp; omega) | omega)))); rintro e u1 ⟨g2, k2, rfl, hg2, hk2, ho2, ho2', hu1⟩; have nu1 : New w17 u1 := New.trans (by repeat (first | (with_reducible exact nu3) | (with_reducible exact nu2) | (with_reducible exact nu1) | (with_reducible exact New.refl _) | (with_reducible refine New.alloc ?_ _) | (with_reducible refine New.drew ?_) | (with_reducible refine New.setCell ?_ ?_ _; rotate_left; (first | exact Nat.le_refl _ | (simp; done) | (simp; omega) | omega)))) hu1; have sX1 := nu1.size; have r1 := BsAt.of_own ho2 hz; have r2 := BsAt.of_own ho2' hy; have lt1 := (ho2.lt g2 rfl).2; have lt2 := (ho2'.lt k2 rfl).2; (first | (have bZ : Blk u1 w17.heap.size 37 #[.int .i64 0, .int .i64 0, .slice none 0 0, .slice none 0 0] := ((Blk.mk w17 w17.heap.size 37 #[.int .i64 0, .int .i64 0, .slice none 0 0, .slice none 0 0] rfl).new ((New.refl _).drew)).new hu1) | skip))
          | (go_at_call 15; refine (toEntry_any ep ki pe ax l cl es _ ?_ hl hl').mono ?_; (refine q.new (hw17.trans ?_); repeat (first | (with_reducible exact nu3) | (with_reducible exact nu2) | (with_reducible exact nu1) | (with_reducible exact New.refl _) | (with_reducible refine New.alloc ?_ _) | (with_reducible refine New.drew ?_) | (with_reducible refine New.setCell ?_ ?_ _; rotate_left; (first | exact Nat.le_refl _ | (simp; done) | (simp; omega) | omega)))); rintro e u2 ⟨g3, rfl, hg3, ho3, hu2⟩; have n12 : New u1 u2 := (by first | (with_reducible exact hu2) | exact ((New.refl _).alloc _).trans hu2); have nu2 : New w17 u2 := nu1.trans n12; have sX2 := nu2.size; have r3 := BsAt.of_own ho3 hx; have lt3 := (ho3.lt g3 rfl).2; have s12 := n12.size; (first | (have bZ := bZ.new n12) | (have bZ : Blk u2 u1.heap.size 37 #[.int .i64 0, .int .i64 0, .slice none 0 0, .slice none 0 0] := (Blk.mk u1 u1.heap.size 37 #[.int .i64 0, .int .i64 0, .slice none 0 0, .slice none 0 0] rfl).new hu2) | skip))
          | (go_at_call 16; refine (hI g2 k2 g3 _ ?_ ?_ ?_ ?_ ?_).mono ?_; (first | exact r1.new n12 | exact r1.new (n12.alloc _)); (first | exact r2.new n12 | exact r2.new (n12.alloc _)); (first | exact r3 | exact r3.new ((New.refl _).alloc _)); (first | omega | (simp; omega)); (first | omega | (simp; omega)); rintro e u3 ⟨a9, e9, c9, d9, rfl, q1, q2, qa, hu3⟩; have n23 : New u2 u3 := (by first | (with_reducible exact hu3) | exact ((New.refl _).alloc _).trans hu3); have nu3 : New w17 u3 := nu2.trans n23; have s23 := n23.size; obtain ⟨-, s1, l1'⟩ := q1.ow hZ; obtain ⟨-, s2, l2'⟩ := q2.ow hY; have l1 : ∀ x, a9 = some x → u2.heap.size ≤ x.block ∧ x.block < u3.heap.size := (fun x hx => (by have := l1' x hx; first | exact this | (simp at this; omega))); have l2 : ∀ x, e9 = some x → u2.heap.size ≤ x.block ∧ x.block < u3.heap.size := (fun x hx => (by have := l2' x hx; first | exact this | (simp at this; omega))); (first | (have bZ := bZ.new n23; have cZ := bZ.cells; have fZ := bZ.frees) | (have bZ : Blk u3 u2.heap.size 37 #[.int .i64 0, .int .i64 0, .slice none 0 0, .slice none 0 0] := (Blk.mk u2 u2.heap.size 37 #[.int .i64 0, .int .i64 0, .slice none 0 0, .slice none 0 0] rfl).new hu3; have cZ := bZ.cells; have fZ := bZ.frees) | skip)))
        all_goals
          have sX := nu1.size
          first
          | (with_reducible show Q' Exit.normal _ (u3.alloc _)
             have al := (New.refl u3).alloc (.cells #[.int .i64 z, .int .i64 ct, .slice a9 Z.length c9, .slice e9 Y.length d9] 37)
             have za := al.size
             rw [hQ']
             exact ⟨u3.heap.size, a9, e9, c9, d9, _, _, _, _, _, _, _, _, _, _, _, _, _, _, _, _, _, _, _, _, _, _, _, _, _, _, _, _, _, _, _, _, _, _, _, _, _, _, _, _, _, _, _, _, _, _, _, _, _, _, _, _, _, _, _, _, _, _, _, _, _, _, _, _, _, _, _, _, _, _, _, _, _, _, rfl, nu3.alloc _, Blk.mk u3 u3.heap.size 37 #[.int .i64 z, .int .i64 ct, .slice a9 Z.length c9, .slice e9 Y.length d9] rfl, by omega, s1.new al, s2.new al, fun x hx => ⟨by have := l1 x hx; omega, by have := l1 x hx; omega⟩, fun x hx => ⟨by have := l2 x hx; omega, by have := l2 x hx; omega⟩⟩)
          | (with_reducible show Q' Exit.normal _ ((((u3.setCell ⟨w17.heap.size, 0, none⟩ (.int .i64 z)).setCell ⟨w17.heap.size, 1, none⟩ (.int .i64 ct)).setCell ⟨w17.heap.size, 2, none⟩ (.slice a9 Z.length c9)).setCell ⟨w17.heap.size, 3, none⟩ (.slice e9 Y.length d9))
             have t1 : Turn (fun i => i = w17.heap.size) u3 ((((u3.setCell ⟨w17.heap.size, 0, none⟩ (.int .i64 z)).setCell ⟨w17.heap.size, 1, none⟩ (.int .i64 ct)).setCell ⟨w17.heap.size, 2, none⟩ (.slice a9 Z.length c9)).setCell ⟨w17.heap.size, 3, none⟩ (.slice e9 Y.length d9)) := Turn.set (S := fun i => i = w17.heap.size) (Turn.set (S := fun i => i = w17.heap.size) (Turn.set (S := fun i => i = w17.heap.size) (Turn.set (S := fun i => i = w17.heap.size) (Turn.refl _ _) rfl _) rfl _) rfl _) rfl _
             have b61 : Blk (u3.setCell ⟨w17.heap.size, 0, none⟩ (.int .i64 z)) (w17.heap.size) 37 #[.int .i64 z, .int .i64 0, .slice none 0 0, .slice none 0 0] := bZ.set 0 _
             have b62 : Blk _ (w17.heap.size) 37 #[.int .i64 z, .int .i64 ct, .slice none 0 0, .slice none 0 0] := b61.set 1 (.int .i64 ct)
             have b63 : Blk _ (w17.heap.size) 37 #[.int .i64 z, .int .i64 ct, .slice a9 Z.length c9, .slice none 0 0] := b62.set 2 (.slice a9 Z.length c9)
             have b64 : Blk _ (w17.heap.size) 37 #[.int .i64 z, .int .i64 ct, .slice a9 Z.length c9, .slice e9 Y.length d9] := b63.set 3 (.slice e9 Y.length d9)
             have zz := t1.size
             rw [hQ']
             exact ⟨w17.heap.size, a9, e9, c9, d9, _, _, _, _, _, _, _, _, _, _, _, _, _, _, _, _, _, _, _, _, _, _, _, _, _, _, _, _, _, _, _, _, _, _, _, _, _, _, _, _, _, _, _, _, _, _, _, _, _, _, _, _, _, _, _, _, _, _, _, _, _, _, _, _, _, _, _, _, _, _, _, _, _, _, rfl, nu3.before t1 (by intro i hi h; omega), b64, by omega, s1.turn t1 (fun x hx e => by have := l1' x hx; have := l1 x hx; first | omega | (simp at *; omega)), s2.turn t1 (fun x hx e => by have := l2' x hx; have := l2 x hx; first | omega | (simp at *; omega)), fun x hx => ⟨by have := l1 x hx; omega, by have := l1 x hx; omega⟩, fun x hx => ⟨by have := l2 x hx; omega, by have := l2 x hx; omega⟩⟩)
          | (with_reducible show Q' Exit.normal _ ((((u3.setCell ⟨u1.heap.size, 0, none⟩ (.int .i64 z)).setCell ⟨u1.heap.size, 1, none⟩ (.int .i64 ct)).setCell ⟨u1.heap.size, 2, none⟩ (.slice a9 Z.length c9)).setCell ⟨u1.heap.size, 3, none⟩ (.slice e9 Y.length d9))
             have t1 : Turn (fun i => i = u1.heap.size) u3 ((((u3.setCell ⟨u1.heap.size, 0, none⟩ (.int .i64 z)).setCell ⟨u1.heap.size, 1, none⟩ (.int .i64 ct)).setCell ⟨u1.heap.size, 2, none⟩ (.slice a9 Z.length c9)).setCell ⟨u1.heap.size, 3, none⟩ (.slice e9 Y.length d9)) := Turn.set (S := fun i => i = u1.heap.size) (Turn.set (S := fun i => i = u1.heap.size) (Turn.set (S := fun i => i = u1.heap.size) (Turn.set (S := fun i => i = u1.heap.size) (Turn.refl _ _) rfl _) rfl _) rfl _) rfl _
             have b61 : Blk (u3.setCell ⟨u1.heap.size, 0, none⟩ (.int .i64 z)) (u1.heap.size) 37 #[.int .i64 z, .int .i64 0, .slice none 0 0, .slice none 0 0] := bZ.set 0 _
             have b62 : Blk _ (u1.heap.size) 37 #[.int .i64 z, .int .i64 ct, .slice none 0 0, .slice none 0 0] := b61.set 1 (.int .i64 ct)
             have b63 : Blk _ (u1.heap.size) 37 #[.int .i64 z, .int .i64 ct, .slice a9 Z.length c9, .slice none 0 0] := b62.set 2 (.slice a9 Z.length c9)
             have b64 : Blk _ (u1.heap.size) 37 #[.int .i64 z, .int .i64 ct, .slice a9 Z.length c9, .slice e9 Y.length d9] := b63.set 3 (.slice e9 Y.length d9)
             have zz := t1.size
             rw [hQ']
             exact ⟨u1.heap.size, a9, e9, c9, d9, _, _, _, _, _, _, _, _, _, _, _, _, _, _, _, _, _, _, _, _, _, _, _, _, _, _, _, _, _, _, _, _, _, _, _, _, _, _, _, _, _, _, _, _, _, _, _, _, _, _, _, _, _, _, _, _, _, _, _, _, _, _, _, _, _, _, _, _, _, _, _, _, _, _, rfl, nu3.before t1 (by intro i hi h; omega), b64, by omega, s1.turn t1 (fun x hx e => by have := l1' x hx; have := l1 x hx; first | omega | (simp at *; omega)), s2.turn t1 (fun x hx e => by have := l2' x hx; have := l2 x hx; first | omega | (simp at *; omega)), fun x hx => ⟨by have := l1 x hx; omega, by have := l1 x hx; omega⟩, fun x hx => ⟨by have := l2 x hx; omega, by have := l2 x hx; omega⟩⟩)
          | (with_reducible show Q' Exit.normal _ ((((u3.setCell ⟨u2.heap.size, 0, none⟩ (.int .i64 z)).setCell ⟨u2.heap.size, 1, none⟩ (.int .i64 ct)).setCell ⟨u2.heap.size, 2, none⟩ (.slice a9 Z.length c9)).setCell ⟨u2.heap.size, 3, none⟩ (.slice e9 Y.length d9))
             have t1 : Turn (fun i => i = u2.heap.size) u3 ((((u3.setCell ⟨u2.heap.size, 0, none⟩ (.int .i64 z)).setCell ⟨u2.heap.size, 1, none⟩ (.int .i64 ct)).setCell ⟨u2.heap.size, 2, none⟩ (.slice a9 Z.length c9)).setCell ⟨u2.heap.size, 3, none⟩ (.slice e9 Y.length d9)) := Turn.set (S := fun i => i = u2.heap.size) (Turn.set (S := fun i => i = u2.heap.size) (Turn.set (S := fun i => i = u2.heap.size) (Turn.set (S := fun i => i = u2.heap.size) (Turn.refl _ _) rfl _) rfl _) rfl _) rfl _
             have b61 : Blk (u3.setCell ⟨u2.heap.size, 0, none⟩ (.int .i64 z)) (u2.heap.size) 37 #[.int .i64 z, .int .i64 0, .slice none 0 0, .slice none 0 0] := bZ.set 0 _
             have b62 : Blk _ (u2.heap.size) 37 #[.int .i64 z, .int .i64 ct, .slice none 0 0, .slice none 0 0] := b61.set 1 (.int .i64 ct)
             have b63 : Blk _ (u2.heap.size) 37 #[.int .i64 z, .int .i64 ct, .slice a9 Z.length c9, .slice none 0 0] := b62.set 2 (.slice a9 Z.length c9)
             have b64 : Blk _ (u2.heap.size) 37 #[.int .i64 z, .int .i64 ct, .slice a9 Z.length c9, .slice e9 Y.length d9] := b63.set 3 (.slice e9 Y.length d9)
             have zz := t1.size
             rw [hQ']
             exact ⟨u2.heap.size, a9, e9, c9, d9, _, _, _, _, _, _, _, _, _, _, _, _, _, _, _, _, _, _, _, _, _, _, _, _, _, _, _, _, _, _, _, _, _, _, _, _, _, _, _, _, _, _, _, _, _, _, _, _, _, _, _, _, _, _, _, _, _, _, _, _, _, _, _, _, _, _, _, _, _, _, _, _, _, _, rfl, nu3.before t1 (by intro i hi h; omega), b64, by omega, s1.turn t1 (fun x hx e => by have := l1' x hx; have := l1 x hx; first | omega | (simp at *; omega)), s2.turn t1 (fun x hx e => by have := l2' x hx; have := l2 x hx; first | omega | (simp at *; omega)), fun x hx => ⟨by have := l1 x hx; omega, by have := l1 x hx; omega⟩, fun x hx => ⟨by have := l2 x hx; omega, by have := l2 x hx; omega⟩⟩)
      case hq31 =>
        rintro e a' w18 hq31
        rw [hQ'] at hq31
        cases e with
        | normal =>
          obtain ⟨B9, a9, e9, c9, d9, y0, y1, y4, y5, y7, y8, y10, y12, y14, y15, y16, y17, y18, y19, y20, y21, y22, y23, y24, y25, y26, y27, y28, y29, y30, y31, y32, y33, y34, y35, y36, y37, y38, y39, y40, y41, y42, y43, y44, y45, y46, y47, y48, y49, y50, y51, y52, y53, y54, y55, y56, y57, y58, y59, y60, y61, y62, y63, y64, y65, y66, y67, y68, y69, y70, y71, y72, y73, y74, y75, y76, y77, y78, y79, rfl, nw18, b9, lB9, r1, r2, g91, g92⟩ := hq31
          clear hQ' KS
          have b318 := b317.new nw18
          have b618 := b617.new nw18
          have s118 := s117.new nw18
          have s218 := s217.new nw18
          have m118 := m117.new nw18
          have m218 := m217.new nw18
          have hw18 := hw17.trans nw18
          clear bA bE b317 b617 s117 s217 m117 m217
          have c3' := b318.cells
          have c9' := b9.cells
          go_wp2_with fail
          refine (eqJR_any z ct a9 e9 a3 e3 Z.length c9 Y.length d9 c3 d3 Z Y _ r1 r2 s118 s218 rfl rfl hZl hYl).mono ?_
          rintro e w19 ⟨rfl, hn19⟩
          have b619 := b618.new hn19
          have m119 := m118.new hn19
          have m219 := m218.new hn19
          clear c3' c9'
          have c6' := b619.cells
          go_wp2_with fail
          refine (heldJR_any z ct a6 e6 Z.length c6 Y.length d6 1 _ m119 m219 (by omega) (by omega) (by omega) (by omega)).mono ?_
          rintro e w20 ⟨rfl, hn20⟩
          go_wp2
          go_ret
          exact ⟨rfl, (hw18.trans hn19).trans hn20⟩
        | _ => exact hq31.elim
    | _ => exact hq8.elim

end Go.Proofs.Ytmfmpcagoamffab
