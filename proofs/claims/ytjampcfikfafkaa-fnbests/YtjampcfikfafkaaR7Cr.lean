/- What is proved here: what the program's comparing of the places of two routes answers, at all numbers. No condition. -/
import Derived.Test.YtjampcfikfafkaaR7Cmp
import Derived.Deep.CutRange
namespace Go.Proofs.Ytjampcfikfafkaa
open Go.RowKit Go.Sort
set_option linter.unusedVariables false

theorem orCR (p a l p' a' l' : Int) (L : Nat) (w : World) (h : Blk w L 3 #[.int .i64 (orL [cmp3 a a', cmp3 l l']), .int .i64 (cmp3 p p')]) : Calls Try.prog 40 #[.slice (some ⟨L, 0, none⟩) 2 2] w fun e w' => e = .returned (.int .i64 (cmpR p a l p' a' l')) ∧ w' = w :=
  or_at [orL [cmp3 a a', cmp3 l l'], cmp3 p p'] _ 2 L w rfl rfl (by omega) h

set_option maxHeartbeats 6400000 in
theorem routes_any (p a l o nx md lc : Int) (x : Option Addr) (n c : Nat) (p' a' l' o' nx' md' lc' : Int) (x' : Option Addr) (n' c' : Nat) (w : World) : Calls Try.prog 29 #[.agg #[.int .i64 p, .int .i64 a, .int .i64 l, .int .i64 o, .slice x n c, .int .i64 nx, .int .i64 md, .int .i64 lc], .agg #[.int .i64 p', .int .i64 a', .int .i64 l', .int .i64 o', .slice x' n' c', .int .i64 nx', .int .i64 md', .int .i64 lc']] w fun e w' => e = .returned (.int .i64 (cmpR p a l p' a' l')) ∧ New w w' := by
  have N0 := ((New.refl w).alloc (.cells #[.int .i64 p, .int .i64 a, .int .i64 l, .int .i64 o, .slice x n c, .int .i64 nx, .int .i64 md, .int .i64 lc] 35)).alloc (.cells #[.int .i64 p', .int .i64 a', .int .i64 l', .int .i64 o', .slice x' n' c', .int .i64 nx', .int .i64 md', .int .i64 lc'] 35)
  have bA : Blk ((w.alloc (.cells #[.int .i64 p, .int .i64 a, .int .i64 l, .int .i64 o, .slice x n c, .int .i64 nx, .int .i64 md, .int .i64 lc] 35)).alloc (.cells #[.int .i64 p', .int .i64 a', .int .i64 l', .int .i64 o', .slice x' n' c', .int .i64 nx', .int .i64 md', .int .i64 lc'] 35)) w.heap.size 35 #[.int .i64 p, .int .i64 a, .int .i64 l, .int .i64 o, .slice x n c, .int .i64 nx, .int .i64 md, .int .i64 lc] := ((Blk.mk w _ 35 #[.int .i64 p, .int .i64 a, .int .i64 l, .int .i64 o, .slice x n c, .int .i64 nx, .int .i64 md, .int .i64 lc] rfl).alloc _)
  have bB : Blk ((w.alloc (.cells #[.int .i64 p, .int .i64 a, .int .i64 l, .int .i64 o, .slice x n c, .int .i64 nx, .int .i64 md, .int .i64 lc] 35)).alloc (.cells #[.int .i64 p', .int .i64 a', .int .i64 l', .int .i64 o', .slice x' n' c', .int .i64 nx', .int .i64 md', .int .i64 lc'] 35)) (w.heap.size + 1) 35 #[.int .i64 p', .int .i64 a', .int .i64 l', .int .i64 o', .slice x' n' c', .int .i64 nx', .int .i64 md', .int .i64 lc'] := (Blk.mk _ (w.heap.size + 1) 35 #[.int .i64 p', .int .i64 a', .int .i64 l', .int .i64 o', .slice x' n' c', .int .i64 nx', .int .i64 md', .int .i64 lc'] (by simp))
  go_enter Try.func29, Try.ntmps29
  go_upto_region 1 with fail
  generalize ((w.alloc (.cells #[.int .i64 p, .int .i64 a, .int .i64 l, .int .i64 o, .slice x n c, .int .i64 nx, .int .i64 md, .int .i64 lc] 35)).alloc (.cells #[.int .i64 p', .int .i64 a', .int .i64 l', .int .i64 o', .slice x' n' c', .int .i64 nx', .int .i64 md', .int .i64 lc'] 35)) = w1 at *
  have d0 := bA
  have d1 := bB
  have dN : New w1 w1 := New.refl _
  go_region_held3 (fun W' => (∀ j, W'.cell? ⟨w.heap.size, j, none⟩ = #[Value.int .i64 p, .int .i64 a, .int .i64 l, .int .i64 o, .slice x n c, .int .i64 nx, .int .i64 md, .int .i64 lc][j]?) ∧ (∀ j, W'.cell? ⟨w.heap.size + 1, j, none⟩ = #[Value.int .i64 p', .int .i64 a', .int .i64 l', .int .i64 o', .slice x' n' c', .int .i64 nx', .int .i64 md', .int .i64 lc'][j]?)) (first | exact ⟨d0.cells, d1.cells⟩ | exact ⟨(d0.alloc _).cells, (d1.alloc _).cells⟩)
    (first
      | (go_at_call 41; refine (compare_any _ _ _).mono ?_; rintro e w' ⟨rfl, rfl⟩)
      | (go_at_call 49; refine (prefs_any a l a' l' _).mono ?_; rintro e wx ⟨rfl, h1⟩; (try simp only [New.drew_mark7] at h1); have d0 := d0.new h1; have d1 := d1.new h1; have dN := dN.trans h1)
      | (go_at_call 40; refine (orCR p a l p' a' l' _ _ (by first | exact Blk.mk _ _ _ _ rfl | exact (Blk.mk _ _ _ _ rfl).new (New.refl _).drew)).mono ?_; rintro e w' ⟨rfl, rfl⟩))
  all_goals
    go_wp2
    go_ret
    exact ⟨rfl, by first | exact N0.trans (dN.alloc _) | exact N0.trans (dN.alloc _).drew⟩

end Go.Proofs.Ytjampcfikfafkaa
