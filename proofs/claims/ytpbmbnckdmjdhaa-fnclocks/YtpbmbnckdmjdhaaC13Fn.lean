/- What is proved here: what the program's readings of a clock answer. No condition. -/
import Derived.Test.YtpbmbnckdmjdhaaL13Gr
import Derived.Test.YtpbmbnckdmjdhaaN13Ls
import Derived.Lib.MinMax
namespace Go.Proofs.Ytpbmbnckdmjdhaa
open Go.RowKit
set_option linter.unusedVariables false

theorem ns13 {w : World} {a : Option Addr} {x y : Int} (h : NsAt w a [x, y]) : ∃ b off, a = some ⟨b, off, none⟩ ∧ w.cell? ⟨b, off, none⟩ = some (.int .i64 x) ∧ w.cell? ⟨b, off + 1, none⟩ = some (.int .i64 y) ∧ b < w.heap.size ∧ In6 x ∧ In6 y := by
  obtain ⟨b, off, rfl, h0, i0⟩ := h 0 x rfl
  obtain ⟨b', off', e, h1, i1⟩ := h 1 y rfl
  cases e
  exact ⟨b, off, rfl, h0, h1, World.block_lt_of_cell? w _ h0, i0, i1⟩

set_option maxHeartbeats 1600000 in
theorem rdOf (nw x y : Int) (a : Option Addr) (c : Nat) (w : World) (h : NsAt w a [x, y]) :
    Calls Try.prog 43 #[.agg #[.int .i64 nw, .slice a 2 c]] w fun e w' => e = .returned (.agg #[.int .i64 nw, .int .i64 x, .int .i64 y]) ∧ New w w' := by
  obtain ⟨b, off, rfl, -⟩ := ns13 h
  have g0 : ∀ A B C, (((w.alloc A).alloc B).alloc C).cell? ⟨b, off, none⟩ = some (.int .i64 x) := by
    intro A B C
    obtain ⟨b', off', e, k, _⟩ := ns13 (h.new ((((New.refl w).alloc A).alloc B).alloc C))
    cases e
    exact k
  have g1 : ∀ A B C, (((w.alloc A).alloc B).alloc C).cell? ⟨b, off + 1, none⟩ = some (.int .i64 y) := by
    intro A B C
    obtain ⟨b', off', e, _, k, _⟩ := ns13 (h.new ((((New.refl w).alloc A).alloc B).alloc C))
    cases e
    exact k
  clear h
  go_enter Try.func43, Try.ntmps43
  go_wp2
  refine wp_loop_rounds 3 ?_
  rw [rounds_succ]
  go_wp2
  rw [rounds_succ]
  go_wp2
  rw [rounds_succ]
  go_wp2
  refine bodyPost_ret (v := .agg #[.int .i64 nw, .int .i64 x, .int .i64 y]) (by simp [results, Try.results43, go_sem]) rfl ⟨rfl, ?_⟩
  exact (((New.refl w).alloc _).alloc _).alloc _

/-- What is nearest to a number within the margin. -/
def nr13 (nw x : Int) : Int := min (max x (max (nw - 2) 0)) (nw + 2)

set_option maxHeartbeats 1600000 in
theorem wiMa (nw x y : Int) (w : World) (h0 : 0 ≤ nw) (h1 : nw ≤ 1000000000) :
    Calls Try.prog 45 #[.agg #[.int .i64 nw, .int .i64 x, .int .i64 y]] w fun e w' => e = .returned (.agg #[.int .i64 nw, .int .i64 (nr13 nw x), .int .i64 (nr13 nw y)]) ∧ New w w' := by
  go_enter Try.func45, Try.ntmps45
  go_wp2_with fail
  go_quiet (fail)
  go_wp2
  refine wp_loop_rounds 3 ?_
  rw [rounds_succ]
  go_wp2
  rw [rounds_succ]
  go_wp2
  rw [rounds_succ]
  go_wp2
  refine bodyPost_ret (v := .agg #[.int .i64 nw, .int .i64 (nr13 nw x), .int .i64 (nr13 nw y)]) (by simp [results, Try.results45, go_sem, nr13]) rfl ⟨rfl, ?_⟩
  have ge0 : w.heap.size ≤ w.heap.size := Nat.le_refl _
  have ge1 : w.heap.size ≤ w.heap.size + 1 := by omega
  simp (disch := first | exact ge1 | exact ge0) only [New.set13]
  exact (((New.refl w).alloc _).alloc _).drewN _

end Go.Proofs.Ytpbmbnckdmjdhaa
