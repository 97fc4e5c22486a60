/- What is proved here: what PeerSends answers, in the program and in the model, for lists of at most 1048576 bytes. -/
import Derived.Test.YtonmdodbhdmmbaaDoorW11Cp
namespace Go.Proofs.YtonmdodbhdmmbaaDoor
open Go.RowKit
set_option linter.unusedVariables false
set_option linter.unusedSimpArgs false

/-- An answer on a wire, as numbers and lists. -/
structure Wr where
  z : Int
  E : Int
  T : Int
  X : List Int
  Z : List Int
  Y : List Int
def Wr.bad (z : Int) : Wr := ⟨z, 0, 0, [], [], []⟩
def WrA (w : World) (A : Wr) (e : Ending) (w' : World) : Prop := WrAns w A.z A.E A.T A.X A.Z A.Y e w'

/-- A wire that a callee made, stored into the call's own result. -/
theorem WrAns.stored {w w5 w9 w' : World} {B : Nat} {E T : Int} {zs ys : List Int} {a b : Option Addr} {c d : Nat} (hB : w.heap.size ≤ B) (hB5 : B < w5.heap.size) (h5 : New w w5) (q1 : OvB w9 w5.heap.size (.slice a zs.length c) zs) (q2 : OvB w9 w5.heap.size (.slice b ys.length d) ys)
    (qa : ∀ x y, a = some x → b = some y → x.block ≠ y.block) (qn : New w5 w9) (t : Turn (fun i => i = B) w9 w') : WrAns w 0 E T [] zs ys (.returned (.agg #[.int .i64 0, .slice none 0 0, .int .i64 E, .slice a zs.length c, .int .i64 T, .slice b ys.length d])) w' := by
  have s := h5.size
  refine ⟨none, a, b, 0, c, d, rfl, ⟨rfl, .inl ⟨rfl, rfl⟩⟩, ?_, ?_, (by intro x y h; cases h), (by intro x y h; cases h), qa, (h5.trans qn).before t (by intro i hi e; omega)⟩
  · exact (ov_turn q1 t (by intro k hk e; omega)).low s
  · exact (ov_turn q2 t (by intro k hk e; omega)).low s

/-- An answer without lists, stored into the call's own result. -/
theorem WrAns.codeT {w w9 w' : World} {B : Nat} {z : Int} (hB : w.heap.size ≤ B) (h9 : New w w9) (t : Turn (fun i => i = B) w9 w') : WrAns w z 0 0 [] [] [] (.returned (.agg #[.int .i64 z, .slice none 0 0, .int .i64 0, .slice none 0 0, .int .i64 0, .slice none 0 0])) w' := WrAns.code (h9.before t (by intro i hi e; omega))

theorem OvB.turnA {w w' : World} {lo m d : Nat} {b : Option Addr} {ys : List Int} {S : Nat → Prop} (h : OvB w lo (.slice b m d) ys) (t : Turn S w w') (hS : ∀ y, b = some y → ¬ S y.block) : OvB w' lo (.slice b m d) ys := by
  refine ⟨h.1, ?_⟩
  rcases h.2 with h' | ⟨g', cap', cur, h', hb, hh, r⟩
  · exact .inl h'
  · have hlt : g' < w.heap.size := (Array.getElem?_eq_some_iff.1 hh).1
    have e : b = some ⟨g', 0, none⟩ := by simp only [Value.slice.injEq] at h'; exact h'.1
    exact .inr ⟨g', cap', cur, h', hb, (t.block g' hlt (hS _ e)).trans hh, r⟩

/-- What PeerSends answers. -/
def psA (E T : Int) (zs ys us : List Int) : Wr := if wF E T zs.length ys.length = 0 then (if 2000 < zs.length + us.length then Wr.bad 2 else ⟨0, E, T, [], zs ++ us, ys⟩) else Wr.bad (wF E T zs.length ys.length)

end Go.Proofs.YtonmdodbhdmmbaaDoor
