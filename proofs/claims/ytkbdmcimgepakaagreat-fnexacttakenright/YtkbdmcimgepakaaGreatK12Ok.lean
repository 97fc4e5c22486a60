/- What is proved here: what a node without a fault is; how a node enters an epoch. -/
import Derived.Test.YtkbdmcimgepakaaGreatK12Up
namespace Go.Proofs.YtkbdmcimgepakaaGreat
open Go.RowKit Go.Sort
set_option linter.unusedVariables false
set_option linter.unusedSimpArgs false
set_option maxRecDepth 100000

theorem nF_ok (id : Int) (up : Bool) (ro ep su ma ot co : Int) (n : Nat) (L : List Ek) (h : nF id up ro ep su ma ot co n L = 0) : Hd id ro ep ∧ n ≤ 100 ∧ lgF ep 0 L = 0 ∧ Cn su ma ot co n ∧ Ft up ro ep ma ot ∧ (up = false → Rs su ma co n) := by
  unfold nF at h
  by_cases h1 : (id = 0 ∨ id = 1) ∧ (ro = 0 ∨ ro = 1) ∧ 0 ≤ ep ∧ ep ≤ 1000
  case neg => rw [if_pos h1] at h; omega
  rw [if_neg (fun k => k h1)] at h
  by_cases h2 : 100 < n
  case pos => rw [if_pos h2] at h; omega
  rw [if_neg h2] at h
  by_cases h3 : lgF ep 0 L = 0
  case neg => rw [if_pos h3] at h; exact absurd h h3
  rw [if_neg (fun k => k h3)] at h
  by_cases h4 : (0 ≤ su ∧ su ≤ n) ∧ (0 ≤ ma ∧ ma ≤ n) ∧ (0 ≤ ot ∧ ot ≤ n) ∧ 0 ≤ co ∧ co ≤ su
  case neg => rw [if_pos h4] at h; omega
  rw [if_neg (fun k => k h4)] at h
  by_cases h5 : (ro = 1 → up = true ∧ 0 < ep ∧ ma = 0) ∧ (ro ≠ 1 → ot = 0)
  case neg => rw [if_pos h5] at h; omega
  rw [if_neg (fun k => k h5)] at h
  by_cases h6 : up = false ∧ ¬ (su = n ∧ ma = 0 ∧ co = 0)
  · rw [if_pos h6] at h; omega
  · exact ⟨h1, by omega, h3, h4, h5, fun hu => Classical.byContradiction fun hr => h6 ⟨hu, hr⟩⟩
theorem uF_ok {up : Bool} {f : Int} (h : uF up f = 0) : f = 0 ∧ up = true := by
  unfold uF at h
  by_cases hf : f = 0
  · rw [if_neg (fun k => k hf)] at h
    refine ⟨hf, ?_⟩
    cases up with
    | true => rfl
    | false => simp at h
  · rw [if_pos hf] at h; exact absurd h hf
theorem aF_ok {up : Bool} {ro f : Int} (h : aF up ro f = 0) : f = 0 ∧ up = true ∧ ro = 1 := by
  unfold aF at h
  by_cases hf : uF up f = 0
  · rw [if_neg (fun k => k hf)] at h
    refine ⟨(uF_ok hf).1, (uF_ok hf).2, Classical.byContradiction fun hr => ?_⟩
    rw [if_pos hr] at h
    omega
  · rw [if_pos hf] at h; exact absurd h hf

end Go.Proofs.YtkbdmcimgepakaaGreat
