/- What is proved here: what the copying and the comparing of things told and of lists of things told answer, for every list of at most 1048576 things told with paths of at most 1048576 numbers. -/
import Derived.Test.YtjampcfikfafkaaGreatT8Lib
import Derived.Deep.CutRange
namespace Go.Proofs.YtjampcfikfafkaaGreat
open Go.RowKit Go.Sort
set_option linter.unusedVariables false

set_option maxHeartbeats 3200000 in
theorem eqTd_any (a l o nx md lc : Int) (x x' : Option Addr) (n c c' : Nat) (xs : List Int) (w : World) (ha : NsAt w x xs) (hb : NsAt w x' xs) (hn : xs.length = n) (hm : n ≤ 1048576) : Calls Tryz.prog 88 #[.agg #[.int .i64 a, .int .i64 l, .int .i64 o, .slice x n c, .int .i64 nx, .int .i64 md, .int .i64 lc], .agg #[.int .i64 a, .int .i64 l, .int .i64 o, .slice x' n c', .int .i64 nx, .int .i64 md, .int .i64 lc]] w fun e w' => e = .returned (.bool true) ∧ New w w' := by
  have hw := ((New.refl w).alloc (.cells #[.int .i64 a, .int .i64 l, .int .i64 o, .slice x n c, .int .i64 nx, .int .i64 md, .int .i64 lc] 43)).alloc (.cells #[.int .i64 a, .int .i64 l, .int .i64 o, .slice x' n c', .int .i64 nx, .int .i64 md, .int .i64 lc] 43)
  have hB : Blk ((w.alloc (.cells #[.int .i64 a, .int .i64 l, .int .i64 o, .slice x n c, .int .i64 nx, .int .i64 md, .int .i64 lc] 43)).alloc (.cells #[.int .i64 a, .int .i64 l, .int .i64 o, .slice x' n c', .int .i64 nx, .int .i64 md, .int .i64 lc] 43)) w.heap.size 43 #[.int .i64 a, .int .i64 l, .int .i64 o, .slice x n c, .int .i64 nx, .int .i64 md, .int .i64 lc] := (Blk.mk _ _ _ _ rfl).alloc _
  have hD : Blk ((w.alloc (.cells #[.int .i64 a, .int .i64 l, .int .i64 o, .slice x n c, .int .i64 nx, .int .i64 md, .int .i64 lc] 43)).alloc (.cells #[.int .i64 a, .int .i64 l, .int .i64 o, .slice x' n c', .int .i64 nx, .int .i64 md, .int .i64 lc] 43)) (w.heap.size + 1) 43 #[.int .i64 a, .int .i64 l, .int .i64 o, .slice x' n c', .int .i64 nx, .int .i64 md, .int .i64 lc] := Blk.mk _ _ _ _ (by simp)
  have cB := hB.cells
  have cD := hD.cells
  go_enter Tryz.func88, Tryz.ntmps88
  go_wp2_with fail
  refine (eqPrefix_any a l _).mono ?_
  rintro e w1 ⟨rfl, hn1⟩
  have hw := hw.trans hn1
  have hB := hB.new hn1
  have hD := hD.new hn1
  have cB := hB.cells
  have cD := hD.cells
  go_wp2_with fail
  refine (eqAt_any o nx md lc x x' n c c' xs _ (ha.new hw) (hb.new hw) hn hm).mono ?_
  rintro e w2 ⟨rfl, hn2⟩
  go_wp2
  go_ret
  exact ⟨rfl, hw.trans hn2⟩

end Go.Proofs.YtjampcfikfafkaaGreat
