/- What is proved here: the order of the heap of routes, and swaps, as facts on lists; no run of the program. No condition. -/
import Derived.Test.YtjampcfikfafkaaH8Mx
import Derived.Test.YtjampcfikfafkaaH8Ls
namespace Go.Proofs.Ytjampcfikfafkaa
open Go.RowKit
set_option linter.unusedVariables false

theorem orL_two (x y : Int) : orL [x, y] < 0 ↔ (x < 0 ∨ (x = 0 ∧ y < 0)) := by
  unfold orL
  by_cases h : x = 0
  · by_cases k : y = 0 <;> simp [h, k, orL]
  · simp [h]
theorem orL_zero2 (a a' l l' : Int) : orL [cmp3 a a', cmp3 l l'] = 0 ↔ (a = a' ∧ l = l') := by
  rcases Int.lt_trichotomy a a' with h | h | h
  · rw [cmp3_lt h]; simp [orL]; omega
  · rw [cmp3_eq h]
    rcases Int.lt_trichotomy l l' with k | k | k
    · rw [cmp3_lt k]; simp [orL]; omega
    · rw [cmp3_eq k]; simp [orL, h, k]
    · rw [cmp3_gt k]; simp [orL]; omega
  · rw [cmp3_gt h]; simp [orL]; omega
theorem hcmp_lt (r s : Rt) : hcmp r s < 0 ↔ (r.a < s.a ∨ (r.a = s.a ∧ (r.l < s.l ∨ (r.l = s.l ∧ cmpW r.p r.o r.md r.lc r.xs.length s.p s.o s.md s.lc s.xs.length < 0)))) := by
  unfold hcmp
  rw [orL_two, orL_zero2, orL_lt, orL_lt]
  simp only [orL, Int.lt_irrefl, and_false, or_false]
  omega

/-- The order of the heap. -/
def hlt (u v : Rv) : Prop := hcmp u.r v.r < 0
instance (u v : Rv) : Decidable (hlt u v) := by unfold hlt; infer_instance
theorem hlt_irr (a : Rv) : ¬ hlt a a := by unfold hlt; rw [hcmp_lt, cmpW_lt]; omega
theorem hlt_asy (a b : Rv) (h : hlt a b) : ¬ hlt b a := by
  unfold hlt at h ⊢
  rw [hcmp_lt, cmpW_lt] at h ⊢
  omega
theorem hlt_tr (a b c : Rv) (h : ¬ hlt b a) (k : ¬ hlt c b) : ¬ hlt c a := by
  unfold hlt at h k ⊢
  rw [hcmp_lt] at h k ⊢
  by_cases e1 : a.r.a = b.r.a ∧ b.r.a = c.r.a ∧ a.r.l = b.r.l ∧ b.r.l = c.r.l
  · obtain ⟨e1, e2, e3, e4⟩ := e1
    simp only [e1, e2, e3, e4, Int.lt_irrefl, true_and, false_or] at h k ⊢
    rw [cmpW_lt] at h k ⊢
    omega
  · intro x
    rcases x with x | ⟨x, x | ⟨x', -⟩⟩ <;> omega
/-- Who are not one prefix's one peer's are one before the other. -/
theorem hlt_tot (a b : Rv) (h : ¬ (a.r.p = b.r.p ∧ a.r.a = b.r.a ∧ a.r.l = b.r.l)) (k : ¬ hlt a b) : hlt b a := by
  unfold hlt at k ⊢
  rw [hcmp_lt, cmpW_lt] at k ⊢
  omega

/-- The list as a function. -/
def hf (V : List Rv) : Nat → Rv := fun k => (V[k]?).getD rv0
theorem hf_get {V : List Rv} {i : Nat} {u : Rv} (h : V[i]? = some u) : hf V i = u := by simp [hf, h]
theorem hf_sw {V : List Rv} {i j : Nat} {u v : Rv} (hi : V[i]? = some u) (hj : V[j]? = some v) : hf ((V.set i v).set j u) = sw (hf V) i j := by
  have h1 := (List.getElem?_eq_some_iff.1 hi).1
  have h2 := (List.getElem?_eq_some_iff.1 hj).1
  funext k
  unfold sw
  rw [hf_get hi, hf_get hj]
  by_cases e1 : k = j
  · subst e1
    rw [hf_get (u := u) (by rw [List.getElem?_set]; simp [h2])]
    by_cases e2 : k = i
    · subst e2
      rw [hi] at hj
      rw [if_pos rfl, Option.some.inj hj]
    · rw [if_neg e2, if_pos rfl]
  · by_cases e2 : k = i
    · subst e2
      rw [if_pos rfl, hf_get (u := v)]
      rw [List.getElem?_set_ne (fun e => e1 e.symm), List.getElem?_set]
      simp [h1]
    · rw [if_neg e2, if_neg e1]
      unfold hf
      rw [List.getElem?_set_ne (fun e => e1 e.symm), List.getElem?_set_ne (fun e => e2 e.symm)]
theorem perm_sw {V : List Rv} {i j : Nat} {u v : Rv} (hi : V[i]? = some u) (hj : V[j]? = some v) : ((V.set i v).set j u).Perm V := by
  obtain ⟨h1, e1⟩ := List.getElem?_eq_some_iff.1 hi
  obtain ⟨h2, e2⟩ := List.getElem?_eq_some_iff.1 hj
  have h := List.set_set_perm h1 h2
  rw [e1, e2] at h
  exact h
theorem hf_at {V : List Rv} {i : Nat} (h : i < V.length) : V[i]? = some (hf V i) := by
  unfold hf
  rw [List.getElem?_eq_getElem h]
  rfl

end Go.Proofs.Ytjampcfikfafkaa
