/- What is proved here: facts on the nine cells of a node, from any place of a block on. No condition. -/
import Derived.Test.YtlkhmnjghdbmoaaGreatDoorQB
namespace Go.Proofs.YtlkhmnjghdbmoaaGreatDoor
open Go.RowKit Go.Sort
set_option linter.unusedVariables false
set_option linter.unusedSimpArgs false

/-- A node's nine cells, from a place of a block on. -/
def NdC (w : World) (B o : Nat) (cs : Array Value) : Prop := cs.size = 9 ∧ ∀ j, j < 9 → w.cell? ⟨B, o + j, none⟩ = cs[j]?
theorem NdC.new {w w' : World} {B o : Nat} {cs : Array Value} (h : NdC w B o cs) (t : New w w') : NdC w' B o cs := by
  refine ⟨h.1, fun j hj => ?_⟩
  have h0 := h.2 j hj
  have h1 : cs[j]? = some (cs[j]'(by rw [h.1]; exact hj)) := Array.getElem?_eq_getElem _
  rw [h1] at h0 ⊢
  exact (World.cell?_of_block (t.block B (World.block_lt_of_cell? w _ h0) (fun f => f))).trans h0
theorem NdC.lt {w : World} {B o : Nat} {cs : Array Value} (h : NdC w B o cs) : B < w.heap.size := by
  have h0 := h.2 0 (by omega)
  have h1 : cs[0]? = some (cs[0]'(by rw [h.1]; omega)) := Array.getElem?_eq_getElem _
  rw [h1] at h0
  exact World.block_lt_of_cell? w _ h0
theorem NdC.cells {w : World} {B o : Nat} {v0 v1 v2 v3 v4 v5 v6 v7 v8 : Value} (h : NdC w B o #[v0, v1, v2, v3, v4, v5, v6, v7, v8]) : w.cell? ⟨B, o, none⟩ = some v0 ∧ w.cell? ⟨B, o + 1, none⟩ = some v1 ∧ w.cell? ⟨B, o + 2, none⟩ = some v2 ∧ w.cell? ⟨B, o + 3, none⟩ = some v3 ∧ w.cell? ⟨B, o + 4, none⟩ = some v4 ∧ w.cell? ⟨B, o + 5, none⟩ = some v5 ∧ w.cell? ⟨B, o + 6, none⟩ = some v6 ∧ w.cell? ⟨B, o + 7, none⟩ = some v7 ∧ w.cell? ⟨B, o + 8, none⟩ = some v8 :=
  ⟨h.2 0 (by omega), h.2 1 (by omega), h.2 2 (by omega), h.2 3 (by omega), h.2 4 (by omega), h.2 5 (by omega), h.2 6 (by omega), h.2 7 (by omega), h.2 8 (by omega)⟩
theorem ndc_regrown {w : World} {B o : Nat} {v0 v1 v2 v3 v4 v5 v6 v7 v8 : Value} (h : NdC w B o #[v0, v1, v2, v3, v4, v5, v6, v7, v8]) : ∀ (d : Nat) (os : Array Obj), (grow (redrawn w d) os).cell? ⟨B, o, none⟩ = some v0 ∧ (grow (redrawn w d) os).cell? ⟨B, o + 1, none⟩ = some v1 ∧ (grow (redrawn w d) os).cell? ⟨B, o + 2, none⟩ = some v2 ∧ (grow (redrawn w d) os).cell? ⟨B, o + 3, none⟩ = some v3 ∧ (grow (redrawn w d) os).cell? ⟨B, o + 4, none⟩ = some v4 ∧ (grow (redrawn w d) os).cell? ⟨B, o + 5, none⟩ = some v5 ∧ (grow (redrawn w d) os).cell? ⟨B, o + 6, none⟩ = some v6 ∧ (grow (redrawn w d) os).cell? ⟨B, o + 7, none⟩ = some v7 ∧ (grow (redrawn w d) os).cell? ⟨B, o + 8, none⟩ = some v8 :=
  fun d os => (h.new (new_regrown w d os)).cells
theorem NdC.ofBlk {w : World} {B : Nat} {t : TypeId} {v0 v1 v2 v3 v4 v5 v6 v7 v8 : Value} (h : Blk w B t #[v0, v1, v2, v3, v4, v5, v6, v7, v8]) : NdC w B 0 #[v0, v1, v2, v3, v4, v5, v6, v7, v8] := ⟨rfl, fun j _ => by rw [Nat.zero_add]; exact h.cells j⟩
theorem NdC.blkA {w : World} {B : Nat} {t : TypeId} {v0 v1 v2 v3 v4 v5 v6 v7 v8 x0 x1 x2 x3 x4 x5 x6 x7 x8 : Value} (h : Blk w B t #[v0, v1, v2, v3, v4, v5, v6, v7, v8, x0, x1, x2, x3, x4, x5, x6, x7, x8]) : NdC w B 0 #[v0, v1, v2, v3, v4, v5, v6, v7, v8] := by
  refine ⟨rfl, fun j hj => ?_⟩
  rw [Nat.zero_add, h.cells j]
  obtain rfl | rfl | rfl | rfl | rfl | rfl | rfl | rfl | rfl : j = 0 ∨ j = 1 ∨ j = 2 ∨ j = 3 ∨ j = 4 ∨ j = 5 ∨ j = 6 ∨ j = 7 ∨ j = 8 := by omega
  all_goals rfl
theorem NdC.blkB {w : World} {B : Nat} {t : TypeId} {v0 v1 v2 v3 v4 v5 v6 v7 v8 x0 x1 x2 x3 x4 x5 x6 x7 x8 : Value} (h : Blk w B t #[v0, v1, v2, v3, v4, v5, v6, v7, v8, x0, x1, x2, x3, x4, x5, x6, x7, x8]) : NdC w B 9 #[x0, x1, x2, x3, x4, x5, x6, x7, x8] := by
  refine ⟨rfl, fun j hj => ?_⟩
  rw [h.cells (9 + j)]
  obtain rfl | rfl | rfl | rfl | rfl | rfl | rfl | rfl | rfl : j = 0 ∨ j = 1 ∨ j = 2 ∨ j = 3 ∨ j = 4 ∨ j = 5 ∨ j = 6 ∨ j = 7 ∨ j = 8 := by omega
  all_goals rfl

end Go.Proofs.YtlkhmnjghdbmoaaGreatDoor
