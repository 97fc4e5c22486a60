/- What is proved here: what ExportAttrs answers, in the program and in the model, for every path of at most 1048576 numbers. -/
import Derived.Test.YtjampcfikfafkaaGreatR6Ex
namespace Go.Proofs.YtjampcfikfafkaaGreat
open Go.RowKit Go.Sort
set_option linter.unusedVariables false

theorem OvN.cons {w : World} {lo n : Nat} {v : Value} {z : Int} {xs : List Int} (h : OvN w lo v (z :: xs)) (hn : xs.length = n) : ∃ g k, v = .slice (some ⟨g, 0, none⟩) (n + 1) k := by
  subst hn
  rcases h.form with ⟨_, h0⟩ | ⟨g, c, rfl, _, _⟩
  · cases h0
  · exact ⟨g, c, rfl⟩
theorem blk5 {w : World} {B : Nat} {t : TypeId} {u0 u1 u2 u3 u4 : Value} (v0 v1 v2 v3 v4 : Value) (h : Blk w B t #[u0, u1, u2, u3, u4]) : Blk (((((w.setCell ⟨B, 0, none⟩ v0).setCell ⟨B, 1, none⟩ v1).setCell ⟨B, 2, none⟩ v2).setCell ⟨B, 3, none⟩ v3).setCell ⟨B, 4, none⟩ v4) B t #[v0, v1, v2, v3, v4] :=
  ((((h.set 0 v0).set 1 v1).set 2 v2).set 3 v3).set 4 v4
/-- A literal of one number, then the callee's memory. -/
theorem New.tagA {w wx : World} {o : Obj} (h : New (w.alloc o) wx) : New w wx := ((New.refl w).alloc o).trans h
/-- A variable, a literal, then the callee's memory. -/
theorem New.tagB {w wx : World} {o : Obj} (h : New ((w.alloc (.cells #[.int .i64 0, .slice none 0 0, .int .i64 0, .int .i64 0, .int .i64 0] 36)).alloc o) wx) : New w wx ∧ Blk wx w.heap.size 36 #[.int .i64 0, .slice none 0 0, .int .i64 0, .int .i64 0, .int .i64 0] :=
  ⟨(((New.refl w).alloc _).alloc o).trans h, ((Blk.mk w w.heap.size _ _ rfl).alloc o).new h⟩
/-- A literal, a variable, then the callee's memory. -/
theorem New.tagC {w wx : World} {o : Obj} (h : New ((w.alloc o).alloc (.cells #[.int .i64 0, .slice none 0 0, .int .i64 0, .int .i64 0, .int .i64 0] 36)) wx) : New w wx ∧ Blk wx (w.heap.size + 1) 36 #[.int .i64 0, .slice none 0 0, .int .i64 0, .int .i64 0, .int .i64 0] :=
  ⟨(((New.refl w).alloc _).alloc _).trans h, (Blk.mk (w.alloc o) (w.heap.size + 1) _ _ (by simp)).new h⟩
theorem World.heap_drew6 (w : World) : w.drew.heap = w.heap := rfl
theorem NsAt.drew_iff {w : World} {a : Option Addr} {xs : List Int} : NsAt w.drew a xs ↔ NsAt w a xs := Iff.rfl
theorem OvN.drew_iff {w : World} {lo : Nat} {v : Value} {xs : List Int} : OvN w.drew lo v xs ↔ OvN w lo v xs := Iff.rfl

theorem l2A_yes (x : Int) (w : World) (h : 0 ≤ x ∧ x ≤ 65535) : Calls Tryz.prog 35 #[.int .i64 x] w fun e w' => e = .returned (.bool true) ∧ w' = w := by
  go_enter Tryz.func35, Tryz.ntmps35
  go_wp2_with fail
  refine (in_yes _ _ _ _ h).mono ?_
  rintro e w1 ⟨rfl, rfl⟩
  go_wp2
  go_ret
  exact ⟨rfl, rfl⟩

theorem l2A_no (x : Int) (w : World) (h : x < 0 ∨ 65535 < x) : Calls Tryz.prog 35 #[.int .i64 x] w fun e w' => e = .returned (.bool false) ∧ w' = w := by
  go_enter Tryz.func35, Tryz.ntmps35
  go_wp2_with fail
  refine (in_no _ _ _ _ h).mono ?_
  rintro e w1 ⟨rfl, rfl⟩
  go_wp2
  go_ret
  exact ⟨rfl, rfl⟩

end Go.Proofs.YtjampcfikfafkaaGreat
