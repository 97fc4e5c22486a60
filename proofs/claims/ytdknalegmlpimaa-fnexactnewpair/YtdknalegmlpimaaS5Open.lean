/- What is proved here: how an argument that is a session or a configuration comes in, and what the copying of one answers. No condition. -/
import Derived.Test.YtdknalegmlpimaaOpen
import Derived.Test.YtdknalegmlpimaaS5Fn
namespace Go.Proofs.Ytdknalegmlpimaa
open Go.ChangeShapes Go.WideShapes Go.ChangeAt Go.RowKit Go.Deep
set_option linter.unusedVariables false

/-- A whole number that an int64 holds. -/
def In5 (x : Int) : Prop := -9223372036854775808 ≤ x ∧ x ≤ 9223372036854775807
theorem in5_of_wf {x : Int} (h : (Lit.int .i64 x).wf = true) : In5 x := by simpa [In5, Lit.wf, IntKind.min, IntKind.max, IntKind.signed, IntKind.bits] using h

set_option maxHeartbeats 400000 in
theorem toCfg_any (sa si ho : Int) (w : World) : Calls Try.prog 17 #[.agg #[.int .i64 sa, .int .i64 si, .int .i64 ho]] w fun e w' => e = .returned (.agg #[.int .i64 sa, .int .i64 si, .int .i64 ho]) ∧ New w w' := by
  go_enter Try.func17, Try.ntmps17
  go_wp2
  refine bodyPost_ret (v := .agg #[.int .i64 sa, .int .i64 si, .int .i64 ho]) (by simp [results, Try.results17, go_sem]) rfl ⟨rfl, ?_⟩
  exact ((((New.refl w).alloc _).alloc _).alloc _)

end Go.Proofs.Ytdknalegmlpimaa
