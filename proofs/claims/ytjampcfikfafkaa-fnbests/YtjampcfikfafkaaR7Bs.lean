/- What is proved here: the order in which routes stand, and what looking for a route's place answers, for lists of at most 1048576 routes. -/
import Derived.Test.YtjampcfikfafkaaR7Rib
import Derived.Test.YtjampcfikfafkaaR7Ord
import Derived.Deep.CutRange
namespace Go.Proofs.Ytjampcfikfafkaa
open Go.RowKit Go.Sort
set_option linter.unusedVariables false

theorem cmpR_lt (p a l p' a' l' : Int) : cmpR p a l p' a' l' < 0 ↔ (a < a' ∨ (a = a' ∧ (l < l' ∨ (l = l' ∧ p < p')))) := by
  have key : ∀ c : Int, ∀ q : List Int, orL (c :: q) < 0 ↔ (c < 0 ∨ (c = 0 ∧ orL q < 0)) := by
    intro c q
    by_cases h : c = 0
    · simp [orL, h]
    · simp [orL, h]
  have z2 : orL [cmp3 a a', cmp3 l l'] = 0 ↔ (a = a' ∧ l = l') := by
    rcases Int.lt_trichotomy a a' with h | h | h
    · rw [cmp3_lt h]; simp [orL]; omega
    · rw [cmp3_eq h]
      rcases Int.lt_trichotomy l l' with k | k | k
      · rw [cmp3_lt k]; simp [orL]; omega
      · rw [cmp3_eq k]; simp [orL, h, k]
      · rw [cmp3_gt k]; simp [orL]; omega
    · rw [cmp3_gt h]; simp [orL]; omega
  unfold cmpR
  rw [key, z2, orL_lt, orL_lt, orL_lt]
  simp only [orL]
  omega
theorem Rt.lt_iff (s r : Rt) : s.lt r = true ↔ (s.a < r.a ∨ (s.a = r.a ∧ (s.l < r.l ∨ (s.l = r.l ∧ s.p < r.p)))) := by
  unfold Rt.lt
  rw [decide_eq_true_iff, cmpR_lt]
theorem Rt.lt_tra {s r q : Rt} (h : s.lt r = true) (k : r.lt q = true) : s.lt q = true := by
  rw [Rt.lt_iff] at *
  omega

/-- In order. -/
abbrev Ord7 (R : List Rt) : Prop := R.Pairwise (fun s r => s.lt r = true)
theorem ribC_ord : ∀ (R : List Rt) (q : Option Rt), ribC q R = 0 → Ord7 R ∧ (∀ s, q = some s → ∀ r ∈ R, s.lt r = true) ∧ (∀ r ∈ R, r.f = 0)
  | [], q, h => by simp
  | r :: R, q, h => by
    have hh : r.f = 0 ∧ (∀ s, q = some s → s.lt r = true) ∧ ribC (some r) R = 0 := by
      cases q with
      | none =>
        unfold ribC at h
        split at h
        · exact ⟨by assumption, by simp, h⟩
        · contradiction
      | some s =>
        unfold ribC at h
        split at h
        · split at h
          · refine ⟨by assumption, ?_, h⟩
            intro s' e
            obtain rfl := Option.some.inj e
            assumption
          · omega
        · contradiction
    obtain ⟨h1, h2, h3⟩ := hh
    obtain ⟨i1, i2, i3⟩ := ribC_ord R (some r) h3
    refine ⟨List.pairwise_cons.2 ⟨fun u hu => i2 r rfl u hu, i1⟩, ?_, ?_⟩
    · intro s hs u hu
      rcases List.mem_cons.1 hu with rfl | hu
      · exact h2 s hs
      · exact Rt.lt_tra (h2 s hs) (i2 r rfl u hu)
    · intro u hu
      rcases List.mem_cons.1 hu with rfl | hu
      · exact h1
      · exact i3 u hu
theorem ribF_ok {R : List Rt} (h : ribF R = 0) : R.length ≤ 60 ∧ Ord7 R ∧ (∀ r ∈ R, r.f = 0) := by
  unfold ribF at h
  split at h
  · omega
  · obtain ⟨h1, -, h3⟩ := ribC_ord R none h
    exact ⟨by omega, h1, h3⟩

/-- How many at the beginning are so. -/
def tw (K : Rt → Bool) (R : List Rt) : Nat := (R.takeWhile K).length
theorem tw_of (K : Rt → Bool) : ∀ (R : List Rt) (i : Nat), i ≤ R.length → (∀ j s, j < i → R[j]? = some s → K s = true) → (∀ s, R[i]? = some s → K s = false) → tw K R = i
  | [], i, hi, _, _ => by simp at hi; simp [tw, hi]
  | r :: R, 0, _, _, h2 => by
    have := h2 r rfl
    simp [tw, this]
  | r :: R, i + 1, hi, h1, h2 => by
    have h0 := h1 0 r (by omega) rfl
    have ih := tw_of K R i (by simpa using hi) (fun j s hj hs => h1 (j + 1) s (by omega) (by simpa using hs)) (fun s hs => h2 s (by simpa using hs))
    unfold tw at ih ⊢
    simp [h0, ih]

end Go.Proofs.Ytjampcfikfafkaa
