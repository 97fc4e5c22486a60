/- What is proved here: how an argument that is a list of prefixes comes in. No condition. -/
import Derived.Test.YtljkcijakdhdiaaDoorPsFn
import Derived.Deep.SlicePairs
namespace Go.Proofs.YtljkcijakdhdiaaDoor
open Go.ChangeShapes Go.WideShapes Go.ChangeAt Go.RowKit Go.Deep

theorem in6_of_wf {x : Int} (h : (Lit.int .i64 x).wf = true) : In6 x := by
  simpa [Lit.wf, IntKind.min, IntKind.max, IntKind.signed, IntKind.bits, In6] using h

set_option maxRecDepth 100000 in
theorem open_prefixes {H : Type} {enc : TypeId × Value → H} {W : World} {base : Nat} {t1 : Nat → Bool} {t2 : Bool} {a : Option Addr} {n c : Nat} {d : DataW H} {p : List MemPlace}
    (h0 : DataW.Trod enc Tryd.prog W base t1 t2 22 (.slice a n c) d p) : ∃ ps, PsAt W a ps ∧ ps.length = n ∧ n ≤ maxLen := by
  obtain ⟨fuel, hf⟩ := h0
  rcases open_slice_pairs Tryd.underlying22 Tryd.underlying98 (by kernel_rfl) rfl rfl (by kernel_rfl) (by kernel_rfl) hf with ⟨hcs, _⟩ | ⟨x, l, cc, m, k, V0, V1, D0, D1, P0, P1, hcs, _, hl, hm, hmm, _, hall⟩
  · simp [Value.cells] at hcs
    obtain ⟨rfl, rfl, rfl⟩ := hcs
    exact ⟨[], PsAt.nil _ _, rfl, Nat.zero_le _⟩
  · simp [Value.cells] at hcs
    obtain ⟨rfl, rfl, rfl⟩ := hcs
    have hlm : n ≤ m := by rw [hmm]; split <;> omega
    refine ⟨(List.range n).map fun i => (intOf (V0 i), intOf (V1 i)), ?_, by simp, Nat.le_trans hl hm⟩
    intro i q hq
    have hi : i < n := by
      have := (List.getElem?_eq_some_iff.1 hq).1
      simpa using this
    have hq' : q = (intOf (V0 i), intOf (V1 i)) := by
      rw [List.getElem?_map, List.getElem?_range hi] at hq
      simpa using hq.symm
    subst hq'
    obtain ⟨c0, c1, u0, u1⟩ := hall i (by omega)
    obtain ⟨z0, e0, -, w0⟩ := DataW.trod_int Tryd.underlying2 u0
    obtain ⟨z1, e1, -, w1⟩ := DataW.trod_int Tryd.underlying2 u1
    simp only [List.cons.injEq, and_true] at e0 e1
    rw [e0] at c0 ⊢
    rw [e1] at c1 ⊢
    obtain ⟨b, off, spot⟩ := x
    have hspot : spot = none := by simpa [Addr.add] using World.cell?_spot (hall 0 (by omega)).1
    subst hspot
    rw [Addr.add_lit] at c0 c1
    exact ⟨b, off, rfl, c0, c1, in6_of_wf w0, in6_of_wf w1⟩

end Go.Proofs.YtljkcijakdhdiaaDoor
