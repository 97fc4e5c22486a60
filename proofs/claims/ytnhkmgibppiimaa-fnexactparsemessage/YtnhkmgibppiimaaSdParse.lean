/- What is proved here: what the model's reading of an update answers where nothing of it can be read. -/
import Derived.Test.YtnhkmgibppiimaaSdAttrs
namespace Go.Proofs.Ytnhkmgibppiimaa
open Go.RowKit Go.Sort
set_option linter.unusedVariables false

set_option maxHeartbeats 1600000 in
theorem specParse_empty (a : Option Addr) (c : Nat) (w : World) :
    Calls Try.prog 46 #[.slice a 0 c] w fun e w' => e = .returned (puV (puZ 5) (.slice none 0 0) (.slice none 0 0) (.slice none 0 0)) ∧ New w w' := by
  have hw := (New.refl w).alloc (.cells #[.int .i64 0, .bool false, .slice none 0 0, .bool false, .int .i64 0, .slice none 0 0, .int .i64 0, .int .i64 0, .int .i64 0, .slice none 0 0] 71)
  have hN5 := (New.refl w).alloc (.cells #[.int .i64 5, .bool false, .slice none 0 0, .bool false, .int .i64 0, .slice none 0 0, .int .i64 0, .int .i64 0, .int .i64 0, .slice none 0 0] 71)
  go_enter Try.func46, Try.ntmps46
  go_wp2
  refine bodyPost_ret (v := puV (puZ 5) (.slice none 0 0) (.slice none 0 0) (.slice none 0 0)) (by simp [results, Try.results46, go_sem, puV, puZ]) rfl ⟨rfl, ?_⟩
  exact hN5

set_option maxHeartbeats 1600000 in
theorem specParse_short (b off n c k : Nat) (w : World) (hc : w.cell? ⟨b, off, none⟩ = some (.int .u8 (k : Int))) (hk : k ≤ 255) (hn : 0 < n) (hm : n ≤ 1048576) (hs : n < 1 + 3 * k) :
    Calls Try.prog 46 #[.slice (some ⟨b, off, none⟩) n c] w fun e w' => e = .returned (puV (puZ 5) (.slice none 0 0) (.slice none 0 0) (.slice none 0 0)) ∧ New w w' := by
  have hw := (New.refl w).alloc (.cells #[.int .i64 0, .bool false, .slice none 0 0, .bool false, .int .i64 0, .slice none 0 0, .int .i64 0, .int .i64 0, .int .i64 0, .slice none 0 0] 71)
  have hN5 := (New.refl w).alloc (.cells #[.int .i64 5, .bool false, .slice none 0 0, .bool false, .int .i64 0, .slice none 0 0, .int .i64 0, .int .i64 0, .int .i64 0, .slice none 0 0] 71)
  have hc' := (World.cell?_of_block (hw.block b (World.block_lt_of_cell? w _ hc) (fun f => f))).trans hc
  have hwk : IntKind.i64.wrap (k : Int) = (k : Int) := by simp [IntKind.wrap, IntKind.signed, IntKind.bits]; omega
  have hn' : (0 : Int) < (n : Int) := by omega
  have hne : ((n : Int) == 0) = false := by simp; omega
  have hs' : (n : Int) < 1 + 3 * (k : Int) := by omega
  go_enter Try.func46, Try.ntmps46
  go_wp2
  refine bodyPost_ret (v := puV (puZ 5) (.slice none 0 0) (.slice none 0 0) (.slice none 0 0)) (by simp [results, Try.results46, go_sem, puV, puZ]) rfl ⟨rfl, ?_⟩
  exact hN5

end Go.Proofs.Ytnhkmgibppiimaa
