/- What is proved here: what the program's packing of an update answers, for every update with lists of at most 1048576 elements. -/
import Derived.Test.YtohngojiomgoeaaDoorUpFn
import Derived.Test.YtohngojiomgoeaaDoorPackFn
namespace Go.Proofs.YtohngojiomgoeaaDoor
open Go.RowKit Go.Sort
set_option linter.unusedVariables false

/-- The block g is a row of bytes that a call has made. -/
def Row8 (w : World) (g n c : Nat) (ys : List Int) : Prop := w.ownsRow 0 5 1 (.slice (some ⟨g, 0, none⟩) n c) n (ys.map (Value.int .u8))
theorem Row8.len {w : World} {g n c : Nat} {ys : List Int} (h : Row8 w g n c ys) : ys.length = n := by simpa using h.1
theorem Row8.lt {w : World} {g n c : Nat} {ys : List Int} (h : Row8 w g n c ys) : g < w.heap.size := (World.ownsRow.lt h g rfl).2
theorem Row8.turn {w w' : World} {g n c : Nat} {ys : List Int} {S : Nat → Prop} (h : Row8 w g n c ys) (t : Turn S w w') (hS : ¬ S g) : Row8 w' g n c ys := own_turn h t hS
theorem Row8.new {w w' : World} {g n c : Nat} {ys : List Int} (h : Row8 w g n c ys) (t : New w w') : Row8 w' g n c ys := own_new h t

/-- The bytes of prefixes. -/
def pxB (ps : List (Int × Int)) : List Int := ps.flatMap fun p => [p.1 / 256, p.1 % 256, p.2]
theorem pxB_snoc (ps : List (Int × Int)) (x y : Int) : pxB (ps ++ [(x, y)]) = pxB ps ++ [x / 256, x % 256, y] := by simp [pxB]
theorem pxB_len : ∀ ps : List (Int × Int), (pxB ps).length = ps.length * 3
  | [] => rfl
  | p :: r => by
    have := pxB_len r
    simp only [pxB, List.flatMap_cons, List.length_append, List.length_cons, List.length_nil] at this ⊢
    omega
/-- The bytes of numbers, two each. -/
def nsB (xs : List Int) : List Int := xs.flatMap fun x => [x / 256, x % 256]
theorem nsB_snoc (xs : List Int) (x : Int) : nsB (xs ++ [x]) = nsB xs ++ [x / 256, x % 256] := by simp [nsB]
theorem nsB_len : ∀ xs : List Int, (nsB xs).length = xs.length * 2
  | [] => rfl
  | p :: r => by
    have := nsB_len r
    simp only [nsB, List.flatMap_cons, List.length_append, List.length_cons, List.length_nil] at this ⊢
    omega

theorem takeP_snoc {ps : List (Int × Int)} {k : Nat} {p : Int × Int} (h : ps[k]? = some p) : ps.take (k + 1) = ps.take k ++ [p] := by
  obtain ⟨hk, rfl⟩ := List.getElem?_eq_some_iff.1 h
  exact List.take_succ_eq_append_getElem hk

end Go.Proofs.YtohngojiomgoeaaDoor
