/- What is proved here: how an argument that is a prefix comes in, and what the copying of a prefix answers. No condition. -/
import Derived.Test.YtlkhmnjghdbmoaaGreatDoorOpen
import Derived.Test.YtlkhmnjghdbmoaaGreatDoorPxFn
namespace Go.Proofs.YtlkhmnjghdbmoaaGreatDoor
open Go.ChangeShapes Go.WideShapes Go.ChangeAt Go.RowKit

set_option maxRecDepth 100000 in
theorem open_prefix {H : Type} {enc : TypeId × Value → H} {W : World} {base b0 : Nat} {r : Reach} {t1 : Nat → Bool} {t2 : Bool} {v : Value} {d : DataW H} {p : List MemPlace}
    (hv : Value.okWide Tryz.prog W r b0 145 v) (h0 : DataW.Trod enc Tryz.prog W base t1 t2 145 v d p) :
    ∃ (a l : Int), v = .agg #[.int .i64 a, .int .i64 l] ∧ (Lit.int .i64 a).wf = true ∧ (Lit.int .i64 l).wf = true := by
  obtain ⟨c0, c1, y0, y1, m, rfl, rfl, rfl, hy0, hy1⟩ := Joins.open_agg2 Tryz.underlying145 (by kernel_rfl) (by kernel_rfl) hv h0
  obtain ⟨a, e0, -, wa⟩ := DataW.trod_int Tryz.underlying2 hy0
  obtain ⟨l, e1, -, wl⟩ := DataW.trod_int Tryz.underlying2 hy1
  simp only [List.cons.injEq, and_true] at e0 e1
  subst e0 e1
  exact ⟨a, l, rfl, wa, wl⟩

set_option maxHeartbeats 400000 in
theorem toPrefix_any (a l : Int) (w : World) : Calls Tryz.prog 100 #[.agg #[.int .i64 a, .int .i64 l]] w fun e w' => e = .returned (.agg #[.int .i64 a, .int .i64 l]) ∧ New w w' := by
  go_enter Tryz.func100, Tryz.ntmps100
  go_wp2
  refine bodyPost_ret (v := .agg #[.int .i64 a, .int .i64 l]) (by simp [results, Tryz.results100, go_sem]) rfl ⟨rfl, ?_⟩
  exact ((((New.refl w).alloc _).alloc _).alloc _)

end Go.Proofs.YtlkhmnjghdbmoaaGreatDoor
