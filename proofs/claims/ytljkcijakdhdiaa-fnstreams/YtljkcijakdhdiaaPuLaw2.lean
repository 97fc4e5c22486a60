/- What is proved here: what the comparing, the marking and the looking for marks in a whole answer of the reading of an update tell. -/
import Derived.Test.YtljkcijakdhdiaaPuLaw
namespace Go.Proofs.Ytljkcijakdhdiaa
open Go.RowKit Go.Sort
set_option linter.unusedVariables false

theorem OwQ.psA {w : World} {lo n c : Nat} {a : Option Addr} {L : List (Int × Int)} (h : OwQ w lo (.slice a n c) L) (hb : ∀ p ∈ L, In6 p.1 ∧ In6 p.2) : PsAt w a L := by
  obtain ⟨a', c', e, hp, -⟩ := h.ps hb
  simp only [Value.slice.injEq] at e
  obtain ⟨rfl, -, rfl⟩ := e
  exact hp
theorem OwM.nsA {w : World} {lo n c : Nat} {a : Option Addr} {L : List Int} (h : OwM w lo (.slice a n c) L) (hb : ∀ z ∈ L, In6 z) : NsAt w a L := by
  obtain ⟨a', c', e, hp, -⟩ := h.ns hb
  simp only [Value.slice.injEq] at e
  obtain ⟨rfl, -, rfl⟩ := e
  exact hp
theorem OwQ.turnA {w w' : World} {lo : Nat} {v : Value} {L : List (Int × Int)} {S : Nat → Prop} (h : OwQ w lo v L) (t : Turn S w w') (hS : ∀ g, v.ownBlock = some g → ¬ S g) : OwQ w' lo v L := by
  rcases h with h | ⟨g, c, h1, h2, h3⟩
  · exact .inl h
  · exact .inr ⟨g, c, h1, h2, h3.turn t (hS g (by rw [h1]; rfl))⟩
theorem OwM.turnA {w w' : World} {lo : Nat} {v : Value} {L : List Int} {S : Nat → Prop} (h : OwM w lo v L) (t : Turn S w w') (hS : ∀ g, v.ownBlock = some g → ¬ S g) : OwM w' lo v L := by
  rcases h with h | ⟨g, c, h1, h2, h3⟩
  · exact .inl h
  · exact .inr ⟨g, c, h1, h2, h3.turn t (hS g (by rw [h1]; rfl))⟩
theorem OwM.slice {w : World} {lo : Nat} {v : Value} {L : List Int} (h : OwM w lo v L) : ∃ a c, v = .slice a L.length c := by
  rcases h with ⟨rfl, rfl⟩ | ⟨g, c, rfl, _⟩
  · exact ⟨none, 0, rfl⟩
  · exact ⟨_, c, rfl⟩
theorem OwQ.slice {w : World} {lo : Nat} {v : Value} {L : List (Int × Int)} (h : OwQ w lo v L) : ∃ a c, v = .slice a L.length c := by
  rcases h with ⟨rfl, rfl⟩ | ⟨g, c, rfl, _⟩
  · exact ⟨none, 0, rfl⟩
  · exact ⟨_, c, rfl⟩

/-- Bounds of what is told. -/
structure Bd (p : PU) : Prop where
  g : ∀ q ∈ p.gs, In6 q.1 ∧ In6 q.2
  n : ∀ z ∈ p.xs, In6 z
  r : ∀ q ∈ p.rs, In6 q.1 ∧ In6 q.2
  lg : p.gs.length ≤ 1048576
  ln : p.xs.length ≤ 1048576
  lr : p.rs.length ≤ 1048576

/-- What is told, with its lists marked. -/
def mkPU (p : PU) : PU := { p with gs := mkP 1 p.gs.length, xs := mkN (1 + 2 * (p.gs.length : Int)) p.xs.length, rs := mkP (1 + 2 * (p.gs.length : Int) + p.xs.length) p.rs.length }
theorem mkPU_bd {p : PU} (hb : Bd p) : Bd (mkPU p) := by
  have l1 := hb.lg
  have l2 := hb.ln
  have l3 := hb.lr
  refine ⟨mkP_bd _ _ (by omega) (by omega) l1, mkN_bd _ _ (by omega) (by omega) l2, mkP_bd _ _ (by omega) (by omega) l3, ?_, ?_, ?_⟩
  · show (mkP 1 p.gs.length).length ≤ _; rw [mkP_len]; exact l1
  · show (mkN _ p.xs.length).length ≤ _; rw [mkN_len]; exact l2
  · show (mkP _ p.rs.length).length ≤ _; rw [mkP_len]; exact l3
def mkE (p : PU) : Int := 1 + 2 * (p.gs.length : Int) + p.xs.length + 2 * (p.rs.length : Int)

end Go.Proofs.Ytljkcijakdhdiaa
