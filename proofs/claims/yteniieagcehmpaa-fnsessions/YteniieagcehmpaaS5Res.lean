/- What is proved here: what the comparing, the marking and the looking up of a whole answer of a session answer, where at most one message is said. No condition. -/
import Derived.Test.YteniieagcehmpaaS5Law
namespace Go.Proofs.Yteniieagcehmpaa
open Go.RowKit
set_option linter.unusedVariables false

/-- An answer of the call's own, laid open. -/
theorem Ans.opened {w w' : World} {c rt rp rh ri rs : Int} {say : Option (Int × Int × Int × Int × Int × Int)} {up dn ud : Bool} {e : Ending} {n : Nat} (h : Ans w ⟨c, rt, rp, rh, ri, rs, say, up, dn, ud⟩ e w') (hn : Hid (sayN say = n)) :
    ∃ g a, e = .returned (.agg #[.int .i64 c, .int .i64 rt, .int .i64 rp, .int .i64 rh, .int .i64 ri, .int .i64 rs, .slice a n n, .bool up, .bool dn, .bool ud]) ∧ w.heap.size ≤ g ∧ g < w'.heap.size ∧ SayAt w' g (.slice a n n) say ∧ New w w' := by
  obtain ⟨g, v, he, h1, h2, h3, h4⟩ := h
  obtain ⟨a, hv⟩ := h3.form
  have e1 : sayN say = n := hn
  dsimp only at hv he h3
  rw [e1] at hv
  subst hv
  exact ⟨g, a, he, h1, h2, h3, h4⟩

theorem ne5a {a b c : Nat} (h : b ≤ c) (h' : a + 2 ≤ b) : ¬ c = a := by omega
theorem ne5b {a b c : Nat} (h : b ≤ c) (h' : a + 2 ≤ b) : ¬ c = a + 1 := by omega
theorem neg5 {a b c : Nat} (h : a < b) (h' : b ≤ c) : ¬ a = c := by omega
theorem neg5' {a c : Nat} (h : a + 1 ≤ c) : ¬ a = c := by omega
theorem cell_set5 {w : World} {p : Addr} {u : Value} {B j : Nat} (h : ¬ p.block = B) : (w.setCell p u).cell? ⟨B, j, none⟩ = w.cell? ⟨B, j, none⟩ := World.cell?_of_block (Below.heap_setCell w p u B (fun e => h e.symm))

/-- Nothing old has turned since the block was laid. -/
def NewA (X : World) (o : Obj) (Y : World) : Prop := New (X.alloc o) Y
theorem NewA.out {X Y : World} {o : Obj} (h : NewA X o Y) : New (X.alloc o) Y := h
theorem New.alloc_mark {X Y : World} {o : Obj} : New (X.alloc o) Y ↔ (New X Y ∧ NewA X o Y) := ⟨fun h => ⟨((New.refl X).alloc o).trans h, h⟩, fun h => h.2⟩
theorem New.drew_mark {X Y : World} : New X.drew Y ↔ New X Y := ⟨fun h => ⟨h.os, h.tape, h.output, h.size, h.block⟩, fun h => ⟨h.os, h.tape, h.output, h.size, h.block⟩⟩
theorem Blk.laid {X Y : World} {t : TypeId} {cs : Array Value} (h : NewA X (.cells cs t) Y) : Blk Y X.heap.size t cs := (Blk.mk X _ t cs rfl).new h

/-- A block of ten cells that is stored whole. -/
theorem blk10 {w : World} {B : Nat} {t : TypeId} {z0 z1 z2 z3 z4 z5 z6 z7 z8 z9 : Value} (c0 c1 c2 c3 c4 c5 c6 c7 c8 c9 : Value) (h : Blk w B t #[z0, z1, z2, z3, z4, z5, z6, z7, z8, z9]) :
    Blk ((((((((((w.setCell ⟨B, 0, none⟩ c0).setCell ⟨B, 1, none⟩ c1).setCell ⟨B, 2, none⟩ c2).setCell ⟨B, 3, none⟩ c3).setCell ⟨B, 4, none⟩ c4).setCell ⟨B, 5, none⟩ c5).setCell ⟨B, 6, none⟩ c6).setCell ⟨B, 7, none⟩ c7).setCell ⟨B, 8, none⟩ c8).setCell ⟨B, 9, none⟩ c9) B t #[c0, c1, c2, c3, c4, c5, c6, c7, c8, c9] := by
  have h9 := (((((((((h.set 0 c0).set 1 c1).set 2 c2).set 3 c3).set 4 c4).set 5 c5).set 6 c6).set 7 c7).set 8 c8).set 9 c9
  simp only [List.setIfInBounds_toArray, List.set_cons_zero, List.set_cons_succ] at h9
  exact h9

end Go.Proofs.Yteniieagcehmpaa
