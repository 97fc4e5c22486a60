/- What is proved here: what the copying and the comparing of routes and of lists of routes answer, for every list of at most 1048576 routes with paths of at most 1048576 numbers. -/
import Derived.Test.YtjampcfikfafkaaGreatR7Lib
import Derived.Deep.CutRange
namespace Go.Proofs.YtjampcfikfafkaaGreat
open Go.RowKit Go.Sort
set_option linter.unusedVariables false

set_option maxHeartbeats 3200000 in
theorem toRt_any (p a l o nx md lc : Int) (x : Option Addr) (n c : Nat) (xs : List Int) (w : World) (h : NsAt w x xs) (hn : xs.length = n) (hm : n ≤ 1048576) : Calls Tryz.prog 47 #[.agg #[.int .i64 p, .int .i64 a, .int .i64 l, .int .i64 o, .slice x n c, .int .i64 nx, .int .i64 md, .int .i64 lc]] w fun e w' => ∃ g, e = .returned (.agg #[.int .i64 p, .int .i64 a, .int .i64 l, .int .i64 o, .slice (some ⟨g, 0, none⟩) n n, .int .i64 nx, .int .i64 md, .int .i64 lc]) ∧ w.heap.size ≤ g ∧ OwN w' g n n xs ∧ New w w' := by
  have HN : Hid (xs.length = n) := hn
  clear hn
  have hw0 : New w (((w.alloc (.cells #[.int .i64 p, .int .i64 a, .int .i64 l, .int .i64 o, .slice x n c, .int .i64 nx, .int .i64 md, .int .i64 lc] 90)).alloc (.cells #[.int .i64 0, .int .i64 0, .int .i64 0, .int .i64 0, .slice none 0 0, .int .i64 0, .int .i64 0, .int .i64 0] 38)).alloc (.cells #[.int .i64 p, .int .i64 0, .int .i64 0, .int .i64 0, .slice none 0 0, .int .i64 0, .int .i64 0, .int .i64 0] 38)) := (((New.refl w).alloc _).alloc _).alloc _
  have b0 : Blk (((w.alloc (.cells #[.int .i64 p, .int .i64 a, .int .i64 l, .int .i64 o, .slice x n c, .int .i64 nx, .int .i64 md, .int .i64 lc] 90)).alloc (.cells #[.int .i64 0, .int .i64 0, .int .i64 0, .int .i64 0, .slice none 0 0, .int .i64 0, .int .i64 0, .int .i64 0] 38)).alloc (.cells #[.int .i64 p, .int .i64 0, .int .i64 0, .int .i64 0, .slice none 0 0, .int .i64 0, .int .i64 0, .int .i64 0] 38)) w.heap.size 90 #[.int .i64 p, .int .i64 a, .int .i64 l, .int .i64 o, .slice x n c, .int .i64 nx, .int .i64 md, .int .i64 lc] := ((Blk.mk _ _ _ _ rfl).alloc _).alloc _
  have b1 : Blk (((w.alloc (.cells #[.int .i64 p, .int .i64 a, .int .i64 l, .int .i64 o, .slice x n c, .int .i64 nx, .int .i64 md, .int .i64 lc] 90)).alloc (.cells #[.int .i64 0, .int .i64 0, .int .i64 0, .int .i64 0, .slice none 0 0, .int .i64 0, .int .i64 0, .int .i64 0] 38)).alloc (.cells #[.int .i64 p, .int .i64 0, .int .i64 0, .int .i64 0, .slice none 0 0, .int .i64 0, .int .i64 0, .int .i64 0] 38)) (w.heap.size + 1) 38 #[.int .i64 0, .int .i64 0, .int .i64 0, .int .i64 0, .slice none 0 0, .int .i64 0, .int .i64 0, .int .i64 0] := (Blk.mk _ _ _ _ (by simp)).alloc _
  have b2 : Blk (((w.alloc (.cells #[.int .i64 p, .int .i64 a, .int .i64 l, .int .i64 o, .slice x n c, .int .i64 nx, .int .i64 md, .int .i64 lc] 90)).alloc (.cells #[.int .i64 0, .int .i64 0, .int .i64 0, .int .i64 0, .slice none 0 0, .int .i64 0, .int .i64 0, .int .i64 0] 38)).alloc (.cells #[.int .i64 p, .int .i64 0, .int .i64 0, .int .i64 0, .slice none 0 0, .int .i64 0, .int .i64 0, .int .i64 0] 38)) (w.heap.size + 1 + 1) 38 #[.int .i64 p, .int .i64 0, .int .i64 0, .int .i64 0, .slice none 0 0, .int .i64 0, .int .i64 0, .int .i64 0] := Blk.mk _ _ _ _ (by simp)
  have ge1 : w.heap.size ≤ w.heap.size + 1 := by omega
  have ge2 : w.heap.size ≤ w.heap.size + 1 + 1 := by omega
  go_enter Tryz.func47, Tryz.ntmps47
  go_upto_region 3 with fail
  generalize (((w.alloc (.cells #[.int .i64 p, .int .i64 a, .int .i64 l, .int .i64 o, .slice x n c, .int .i64 nx, .int .i64 md, .int .i64 lc] 90)).alloc (.cells #[.int .i64 0, .int .i64 0, .int .i64 0, .int .i64 0, .slice none 0 0, .int .i64 0, .int .i64 0, .int .i64 0] 38)).alloc (.cells #[.int .i64 p, .int .i64 0, .int .i64 0, .int .i64 0, .slice none 0 0, .int .i64 0, .int .i64 0, .int .i64 0] 38)) = w0 at *
  have c0 := b0.cells
  go_wp2_with fail
  refine (toPrefix_any a l _).mono ?_
  rintro e w1 ⟨rfl, hn1⟩
  have n1 := hw0.trans hn1
  have B0 := b0.new hn1
  have B1 := b1.new hn1
  have B2 := b2.new hn1
  have c0 := B0.cells
  have c2 := B2.cells
  have f2 := B2.frees
  have hh := (h.new n1)
  clear b0 b1 b2 hn1 hw0
  go_upto_region 4 with fail
  have t1 : Turn (fun k => k = w.heap.size + 1 + 1) w1 ((w1.setCell ⟨w.heap.size + 1 + 1, 1, none⟩ (.int .i64 a)).setCell ⟨w.heap.size + 1 + 1, 1 + 1, none⟩ (.int .i64 l)) := ((Turn.refl (fun k => k = w.heap.size + 1 + 1) w1).set (p := ⟨w.heap.size + 1 + 1, 1, none⟩) rfl _).set (p := ⟨w.heap.size + 1 + 1, 1 + 1, none⟩) rfl _
  have D2 : Blk ((w1.setCell ⟨w.heap.size + 1 + 1, 1, none⟩ (.int .i64 a)).setCell ⟨w.heap.size + 1 + 1, 1 + 1, none⟩ (.int .i64 l)) (w.heap.size + 1 + 1) 38 #[.int .i64 p, .int .i64 a, .int .i64 l, .int .i64 0, .slice none 0 0, .int .i64 0, .int .i64 0, .int .i64 0] := (B2.set 1 (.int .i64 a)).set 2 (.int .i64 l)
  have D0 := B0.turn t1 (by omega)
  have D1 := B1.turn t1 (by omega)
  have n2 := n1.before t1 (by intro i hi e; omega)
  have hh := h.new n2
  clear B0 B1 B2 c0 c2 f2 t1
  generalize ((w1.setCell ⟨w.heap.size + 1 + 1, 1, none⟩ (.int .i64 a)).setCell ⟨w.heap.size + 1 + 1, 1 + 1, none⟩ (.int .i64 l)) = w2 at *
  have c0 := D0.cells
  go_wp2_with fail
  refine (toAt_any o nx md lc x n c xs _ hh HN.out hm).mono ?_
  rintro e w3 ⟨g, rfl, hg, ho, hn3⟩
  have E1 := D1.new hn3
  have E2 := D2.new hn3
  have n3 := n2.trans hn3
  have l1 := D1.lt
  have l2 := D2.lt
  have e1 : ¬ w.heap.size + 1 = g := by omega
  have e2 : ¬ w.heap.size + 1 + 1 = g := by omega
  have c1 := E1.cells
  have f1 := E1.frees
  have c2 := E2.cells
  have f2 := E2.frees
  have hg' : w.heap.size ≤ g := by omega
  clear D0 D1 D2 E1 E2 c0
  go_wp2
  refine bodyPost_ret (v := .agg #[.int .i64 p, .int .i64 a, .int .i64 l, .int .i64 o, .slice (some ⟨g, 0, none⟩) n n, .int .i64 nx, .int .i64 md, .int .i64 lc]) (by simp [results, Tryz.results47, go_sem, c1]) rfl ⟨g, rfl, hg', ?_, ?_⟩
  · simp (disch := (first | exact e1 | exact e2)) only [OwN.set_iff, ho]
  · simp (disch := (first | exact ge1 | exact ge2)) only [New.set_iff, n3]

set_option maxHeartbeats 3200000 in
theorem eqRt_any (p a l o nx md lc : Int) (x x' : Option Addr) (n c c' : Nat) (xs : List Int) (w : World) (ha : NsAt w x xs) (hb : NsAt w x' xs) (hn : xs.length = n) (hm : n ≤ 1048576) : Calls Tryz.prog 50 #[.agg #[.int .i64 p, .int .i64 a, .int .i64 l, .int .i64 o, .slice x n c, .int .i64 nx, .int .i64 md, .int .i64 lc], .agg #[.int .i64 p, .int .i64 a, .int .i64 l, .int .i64 o, .slice x' n c', .int .i64 nx, .int .i64 md, .int .i64 lc]] w fun e w' => e = .returned (.bool true) ∧ New w w' := by
  have hw := ((New.refl w).alloc (.cells #[.int .i64 p, .int .i64 a, .int .i64 l, .int .i64 o, .slice x n c, .int .i64 nx, .int .i64 md, .int .i64 lc] 38)).alloc (.cells #[.int .i64 p, .int .i64 a, .int .i64 l, .int .i64 o, .slice x' n c', .int .i64 nx, .int .i64 md, .int .i64 lc] 38)
  have hB : Blk ((w.alloc (.cells #[.int .i64 p, .int .i64 a, .int .i64 l, .int .i64 o, .slice x n c, .int .i64 nx, .int .i64 md, .int .i64 lc] 38)).alloc (.cells #[.int .i64 p, .int .i64 a, .int .i64 l, .int .i64 o, .slice x' n c', .int .i64 nx, .int .i64 md, .int .i64 lc] 38)) w.heap.size 38 #[.int .i64 p, .int .i64 a, .int .i64 l, .int .i64 o, .slice x n c, .int .i64 nx, .int .i64 md, .int .i64 lc] := (Blk.mk _ _ _ _ rfl).alloc _
  have hD : Blk ((w.alloc (.cells #[.int .i64 p, .int .i64 a, .int .i64 l, .int .i64 o, .slice x n c, .int .i64 nx, .int .i64 md, .int .i64 lc] 38)).alloc (.cells #[.int .i64 p, .int .i64 a, .int .i64 l, .int .i64 o, .slice x' n c', .int .i64 nx, .int .i64 md, .int .i64 lc] 38)) (w.heap.size + 1) 38 #[.int .i64 p, .int .i64 a, .int .i64 l, .int .i64 o, .slice x' n c', .int .i64 nx, .int .i64 md, .int .i64 lc] := Blk.mk _ _ _ _ (by simp)
  have z1 : (p != p) = false := by simp
  have cB := hB.cells
  have cD := hD.cells
  go_enter Tryz.func50, Tryz.ntmps50
  go_wp2_with fail
  refine (eqPrefix_any a l _).mono ?_
  rintro e w1 ⟨rfl, hn1⟩
  have hw := hw.trans hn1
  have hB := hB.new hn1
  have hD := hD.new hn1
  have cB := hB.cells
  have cD := hD.cells
  go_wp2_with fail
  refine (eqAt_any o nx md lc x x' n c c' xs _ (ha.new hw) (hb.new hw) hn hm).mono ?_
  rintro e w2 ⟨rfl, hn2⟩
  go_wp2
  go_ret
  exact ⟨rfl, hw.trans hn2⟩

end Go.Proofs.YtjampcfikfafkaaGreat
