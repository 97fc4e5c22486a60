/- What is proved here: what the program's comparing of two prefixes answers, at all numbers, and that it is an order. No condition. -/
import Derived.Test.YtefbeaoinikbgaaEnLib
import Derived.Test.YtefbeaoinikbgaaShelf
import Derived.Deep.RegionHeld3
namespace Go.Proofs.Ytefbeaoinikbgaa
open Go.RowKit Go.Sort Go.Shelf

def cmp3 (x y : Int) : Int := if x < y then -1 else if y < x then 1 else 0
def cmpP (p q : Int × Int) : Int := if cmp3 p.1 q.1 = 0 then cmp3 p.2 q.2 else cmp3 p.1 q.1

theorem compare_any (x y : Int) (w : World) : Calls Try.prog 38 #[.int .i64 x, .int .i64 y] w fun e w' => e = .returned (.int .i64 (cmp3 x y)) ∧ w' = w := by
  have hx : (x != x) = false := by simp
  have hy : (y != y) = false := by simp
  by_cases h1 : x < y
  · have hf : Hid (cmp3 x y = -1) := by unfold Hid cmp3; rw [if_pos h1]
    go_enter Try.func38, Try.ntmps38
    go_wp2
    go_ret
    exact ⟨ret_i64 hf.out.symm, rfl⟩
  · by_cases h2 : y < x
    · have hf : Hid (cmp3 x y = 1) := by unfold Hid cmp3; rw [if_neg h1, if_pos h2]
      go_enter Try.func38, Try.ntmps38
      go_wp2
      go_ret
      exact ⟨ret_i64 hf.out.symm, rfl⟩
    · have hf : Hid (cmp3 x y = 0) := by unfold Hid cmp3; rw [if_neg h1, if_neg h2]
      go_enter Try.func38, Try.ntmps38
      go_wp2
      go_ret
      exact ⟨ret_i64 hf.out.symm, rfl⟩

set_option maxHeartbeats 800000 in
theorem or_any (c d : Int) (L : Nat) (w : World) (h0 : w.cell? ⟨L, 0, none⟩ = some (.int .i64 c)) (h1 : w.cell? ⟨L, 1, none⟩ = some (.int .i64 d)) : Calls Try.prog 37 #[.slice (some ⟨L, 0, none⟩) 2 2] w fun e w' => e = .returned (.int .i64 (if c = 0 then d else c)) ∧ w' = w := by
  go_enter Try.func37, Try.ntmps37
  go_wp2_with fail
  go_loopw [8] (fun i wr => wr = w ∧ (i = .int .i64 0 ∨ (i = .int .i64 1 ∧ c = 0) ∨ (i = .int .i64 2 ∧ c = 0 ∧ d = 0))) (fun i _ => 2 - (intOf i).toNat)
  case atStart => exact ⟨rfl, .inl rfl⟩
  case round =>
    obtain ⟨rfl, rfl | ⟨rfl, rfl⟩ | ⟨rfl, rfl, rfl⟩⟩ := hrel
    · by_cases hc : c = 0
      · subst hc
        have hz : ((0 : Int) != 0) = false := rfl
        go_wp2
        go_roundw
        case rel => exact ⟨by trivial, .inr (.inl ⟨by go_num, by trivial⟩)⟩
        case measure => simp [intOf]
      · have hz : (c != 0) = true := by simpa using hc
        go_wp2
        go_ret
        exact ⟨by first | rfl | simp [hc], rfl⟩
    · by_cases hd : d = 0
      · subst hd
        have hz : ((0 : Int) != 0) = false := rfl
        go_wp2
        go_roundw
        case rel => exact ⟨by trivial, .inr (.inr ⟨by go_num, by trivial, by trivial⟩)⟩
        case measure => simp [intOf]
      · have hz : (d != 0) = true := by simpa using hd
        go_wp2
        go_ret
        exact ⟨by first | rfl | simp, rfl⟩
    · go_wp2
      go_ret
      exact ⟨by first | rfl | simp, rfl⟩

theorem or_is (c d r : Int) (L : Nat) (w : World) (hr : (if c = 0 then d else c) = r) (h0 : w.cell? ⟨L, 0, none⟩ = some (.int .i64 c)) (h1 : w.cell? ⟨L, 1, none⟩ = some (.int .i64 d)) : Calls Try.prog 37 #[.slice (some ⟨L, 0, none⟩) 2 2] w fun e w' => e = .returned (.int .i64 r) ∧ w' = w := hr ▸ or_any c d L w h0 h1

def encP (p : Int × Int) : List Value := [.int .i64 p.1, .int .i64 p.2]

set_option maxHeartbeats 1600000 in
theorem cmpP_any (p q : Int × Int) (W : World) : Calls Try.prog 32 #[.agg #[.int .i64 p.1, .int .i64 p.2], .agg #[.int .i64 q.1, .int .i64 q.2]] W fun e w' => e = .returned (.int .i64 (cmpP p q)) ∧ ∃ k os', w' = grow (W.drewN k) os' := by
  have hc : Hid ((if cmp3 p.1 q.1 = 0 then cmp3 p.2 q.2 else cmp3 p.1 q.1) = cmpP p q) := rfl
  have hb : Hid (Blk (((W.alloc (.cells #[.int .i64 p.1, .int .i64 p.2] 25)).alloc (.cells #[.int .i64 q.1, .int .i64 q.2] 25)).alloc (.cells #[.int .i64 (cmp3 p.1 q.1), .int .i64 (cmp3 p.2 q.2)] 3)).drew (W.heap.size + 1 + 1) 3 #[.int .i64 (cmp3 p.1 q.1), .int .i64 (cmp3 p.2 q.2)]) := (Blk.mk _ _ _ _ (by simp)).new (New.refl _).drew
  have kk : Hid (Calls Try.prog 37 #[.slice (some ⟨W.heap.size + 1 + 1, 0, none⟩) 2 2] (((W.alloc (.cells #[.int .i64 p.1, .int .i64 p.2] 25)).alloc (.cells #[.int .i64 q.1, .int .i64 q.2] 25)).alloc (.cells #[.int .i64 (cmp3 p.1 q.1), .int .i64 (cmp3 p.2 q.2)] 3)).drew fun e w' => e = .returned (.int .i64 (cmpP p q)) ∧ w' = (((W.alloc (.cells #[.int .i64 p.1, .int .i64 p.2] 25)).alloc (.cells #[.int .i64 q.1, .int .i64 q.2] 25)).alloc (.cells #[.int .i64 (cmp3 p.1 q.1), .int .i64 (cmp3 p.2 q.2)] 3)).drew) :=
    or_is (cmp3 p.1 q.1) (cmp3 p.2 q.2) (cmpP p q) _ _ hc.out (hb.out.cells 0) (hb.out.cells 1)
  clear hb hc
  have cA : ∀ j, ((W.alloc (.cells #[.int .i64 p.1, .int .i64 p.2] 25)).alloc (.cells #[.int .i64 q.1, .int .i64 q.2] 25)).cell? ⟨W.heap.size, j, none⟩ = #[Value.int .i64 p.1, .int .i64 p.2][j]? := ((Blk.mk W _ 25 #[.int .i64 p.1, .int .i64 p.2] rfl).alloc _).cells
  have cB : ∀ j, ((W.alloc (.cells #[.int .i64 p.1, .int .i64 p.2] 25)).alloc (.cells #[.int .i64 q.1, .int .i64 q.2] 25)).cell? ⟨W.heap.size + 1, j, none⟩ = #[Value.int .i64 q.1, .int .i64 q.2][j]? := (Blk.mk _ (W.heap.size + 1) 25 #[.int .i64 q.1, .int .i64 q.2] (by simp)).cells
  have kA : ∀ o j, (((W.alloc (.cells #[.int .i64 p.1, .int .i64 p.2] 25)).alloc (.cells #[.int .i64 q.1, .int .i64 q.2] 25)).alloc o).cell? ⟨W.heap.size, j, none⟩ = #[Value.int .i64 p.1, .int .i64 p.2][j]? := fun o => (((Blk.mk W _ 25 #[.int .i64 p.1, .int .i64 p.2] rfl).alloc _).alloc o).cells
  have kB : ∀ o j, (((W.alloc (.cells #[.int .i64 p.1, .int .i64 p.2] 25)).alloc (.cells #[.int .i64 q.1, .int .i64 q.2] 25)).alloc o).cell? ⟨W.heap.size + 1, j, none⟩ = #[Value.int .i64 q.1, .int .i64 q.2][j]? := fun o => ((Blk.mk _ (W.heap.size + 1) 25 #[.int .i64 q.1, .int .i64 q.2] (by simp)).alloc o).cells
  go_enter Try.func32, Try.ntmps32
  go_wp2_with fail
  go_region_held3 (fun W' => (∀ j, W'.cell? ⟨W.heap.size, j, none⟩ = #[Value.int .i64 p.1, .int .i64 p.2][j]?) ∧ (∀ j, W'.cell? ⟨W.heap.size + 1, j, none⟩ = #[Value.int .i64 q.1, .int .i64 q.2][j]?)) (first | exact ⟨cA, cB⟩ | exact ⟨kA _, kB _⟩)
    (first
      | (go_at_call 38; refine (compare_any _ _ _).mono ?_; rintro e w' ⟨rfl, rfl⟩)
      | (go_at_call 37; refine kk.out.mono ?_; rintro e w' ⟨rfl, rfl⟩))
  all_goals
    go_wp2
    go_ret
    refine ⟨rfl, 1, #[.cells #[.int .i64 p.1, .int .i64 p.2] 25, .cells #[.int .i64 q.1, .int .i64 q.2] 25, .cells #[.int .i64 (cmp3 p.1 q.1), .int .i64 (cmp3 p.2 q.2)] 3], ?_⟩
    first | rfl | (rw [alloc_eq_grow, alloc_eq_grow, alloc_eq_grow, grow_grow, grow_grow]; rfl)

end Go.Proofs.Ytefbeaoinikbgaa
