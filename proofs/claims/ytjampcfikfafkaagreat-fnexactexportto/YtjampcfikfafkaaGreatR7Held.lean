/- What is proved here: what the looking for marks in lists of routes and what the comparing, the marking and the looking for marks of answers with routes answer, for lists of at most 1048576 routes with paths of at most 1048576 numbers. -/
import Derived.Test.YtjampcfikfafkaaGreatR7Mark
namespace Go.Proofs.YtjampcfikfafkaaGreat
open Go.RowKit Go.Sort
set_option linter.unusedVariables false

theorem markRts_any (A : Option Addr) (n c lo hi : Nat) (k : Int) (V : List Rv) (w : World) (h : OwT w lo hi (.slice A n c) V) (hm : n ≤ 1048576) (hk0 : 0 ≤ k) (hk : k ≤ 1048576) :
    Calls Tryz.prog 19 #[.slice A n c, .int .i64 k] w fun e w' => e = .returned (.int .i64 (endT k V)) ∧ OwT w' lo hi (.slice A n c) (markT k V) ∧ Turn (fun x => lo ≤ x ∧ x < hi) w w' := by
  rcases row_form7 h.row with ⟨hv, rfl⟩ | ⟨g, c', hv, hlo, hlt, ho⟩
  · simp only [Value.slice.injEq] at hv
    obtain ⟨rfl, rfl, rfl⟩ := hv
    go_enter Tryz.func19, Tryz.ntmps19
    go_wp2
    refine wp_loop_rounds 1 ?_
    rw [rounds_succ]
    go_wp2
    go_ret
    exact ⟨rfl, h, Turn.refl _ _⟩
  · simp only [Value.slice.injEq] at hv
    obtain ⟨rfl, rfl, rfl⟩ := hv
    refine (markRow_any g V.length c lo hi k V w ho h.path hlo (h.rhi g rfl) hm hk0 hk).mono ?_
    rintro e w1 ⟨rfl, ho1, hp1, ht⟩
    exact ⟨rfl, ⟨row_of7 ho1 hlo, h.rhi, hp1⟩, ht⟩

/-- An answer: a code, and routes that the call owns. -/
def RAns (w : World) (z : Int) (R : List Rt) (e : Ending) (w' : World) : Prop :=
  ∃ A n c V, e = .returned (.agg #[.int .i64 z, .slice A n c]) ∧ V.map Rv.r = R ∧ V.length = n ∧ OwT w' w.heap.size w'.heap.size (.slice A n c) V ∧ New w w'

end Go.Proofs.YtjampcfikfafkaaGreat
