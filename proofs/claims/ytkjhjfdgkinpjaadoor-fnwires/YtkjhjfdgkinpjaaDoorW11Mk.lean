/- What is proved here: what the comparing and marking of wires and of answers on them leave, for lists of at most 1048576 bytes. -/
import Derived.Test.YtkjhjfdgkinpjaaDoorW11Lib
import Derived.Test.YtkjhjfdgkinpjaaDoorE10Cc
namespace Go.Proofs.YtkjhjfdgkinpjaaDoor
open Go.RowKit
set_option linter.unusedVariables false

theorem OvB.ow {w : World} {lo n c : Nat} {a : Option Addr} {xs : List Int} (h : OvB w lo (.slice a n c) xs) (hb : ∀ z ∈ xs, 0 ≤ z ∧ z ≤ 255) : OwAt w a n c xs ∧ BsAt w a xs ∧ ∀ x, a = some x → lo ≤ x.block ∧ x.block < w.heap.size := by
  obtain ⟨a', c', e, hbs, hc, hs, ho⟩ := h.bs hb
  obtain ⟨rfl, rfl, rfl⟩ : a = a' ∧ n = xs.length ∧ c = c' := by simpa using e
  refine ⟨ho, hbs, ?_⟩
  rintro x rfl
  rcases hs with ⟨h, _⟩ | ⟨g, h, h1, h2⟩
  · cases h
  · obtain rfl := Option.some.inj h
    exact ⟨h1, h2⟩

theorem bA_lt {w : World} {B C : Nat} {t t' : TypeId} {cs cs' : Array Value} (h : Blk w B t cs) (h' : Blk w C t' cs') (hne : t ≠ t') (hle : B ≤ C) : B < C := by
  rcases Nat.lt_or_ge B C with h1 | h1
  · exact h1
  · obtain rfl : B = C := Nat.le_antisymm hle h1
    have e := h.symm.trans h'
    simp at e
    exact (hne e.2).elim

theorem ov_turn {w w' : World} {lo : Nat} {v : Value} {xs : List Int} {S : Nat → Prop} (h : OvB w lo v xs) (t : Turn S w w') (hS : ∀ k, lo ≤ k → ¬ S k) : OvB w' lo v xs := h.turn t (fun k hk _ => hS k hk)

/-- An answer on a wire: a code, bytes, a wire; all lists of the call's own, in blocks apart. -/
def WrAns (w : World) (z E T : Int) (X Z Y : List Int) (e : Ending) (w' : World) : Prop :=
  ∃ (p a b : Option Addr) (f c d : Nat), e = .returned (.agg #[.int .i64 z, .slice p X.length f, .int .i64 E, .slice a Z.length c, .int .i64 T, .slice b Y.length d]) ∧ OvB w' w.heap.size (.slice p X.length f) X ∧ OvB w' w.heap.size (.slice a Z.length c) Z ∧ OvB w' w.heap.size (.slice b Y.length d) Y ∧
    (∀ x y, p = some x → a = some y → x.block ≠ y.block) ∧ (∀ x y, p = some x → b = some y → x.block ≠ y.block) ∧ (∀ x y, a = some x → b = some y → x.block ≠ y.block) ∧ New w w'
theorem WrAns.code {w w' : World} {z : Int} (h : New w w') : WrAns w z 0 0 [] [] [] (.returned (.agg #[.int .i64 z, .slice none 0 0, .int .i64 0, .slice none 0 0, .int .i64 0, .slice none 0 0])) w' :=
  ⟨none, none, none, 0, 0, 0, rfl, ⟨rfl, .inl ⟨rfl, rfl⟩⟩, ⟨rfl, .inl ⟨rfl, rfl⟩⟩, ⟨rfl, .inl ⟨rfl, rfl⟩⟩, (by intro x y h; cases h), (by intro x y h; cases h), (by intro x y h; cases h), h⟩

end Go.Proofs.YtkjhjfdgkinpjaaDoor
