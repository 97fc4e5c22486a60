/- What is proved here: what the copying, the comparing and the counting of an update answer, for lists of at most 1048576 elements. -/
import Derived.Test.YteniieagcehmpaaAtLaw
import Derived.Test.YteniieagcehmpaaUpFn
namespace Go.Proofs.Yteniieagcehmpaa
open Go.RowKit Go.Sort
set_option linter.unusedVariables false

theorem OwP.set_iff {w : World} {g n c : Nat} {ps : List (Int × Int)} {p : Addr} {u : Value} (hp : ¬ p.block = g) : OwP (w.setCell p u) g n c ps ↔ OwP w g n c ps := by
  have hb : (w.setCell p u).heap[g]? = w.heap[g]? := Below.heap_setCell w p u g (fun e => hp e.symm)
  unfold OwP World.ownsRow
  constructor
  · rintro ⟨h1, h2⟩
    refine ⟨h1, ?_⟩
    rcases h2 with h' | ⟨g', cap', cur, h', r⟩
    · exact .inl h'
    · simp only [Value.slice.injEq, Option.some.injEq, Addr.mk.injEq, and_true, true_and] at h'
      obtain ⟨rfl, rfl⟩ := h'
      exact .inr ⟨g, c, cur, rfl, r.1, hb.symm.trans r.2.1, r.2.2⟩
  · rintro ⟨h1, h2⟩
    refine ⟨h1, ?_⟩
    rcases h2 with h' | ⟨g', cap', cur, h', r⟩
    · exact .inl h'
    · simp only [Value.slice.injEq, Option.some.injEq, Addr.mk.injEq, and_true, true_and] at h'
      obtain ⟨rfl, rfl⟩ := h'
      exact .inr ⟨g, c, cur, rfl, r.1, hb.trans r.2.1, r.2.2⟩

theorem Turn.here {a w : World} {B j : Nat} (h : Turn (fun k => k = B) a w) (u : Value) : Turn (fun k => k = B) a (w.setCell ⟨B, j, none⟩ u) := Turn.set (S := fun k => k = B) h rfl u

end Go.Proofs.Yteniieagcehmpaa
