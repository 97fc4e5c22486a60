/- What is proved here: plain facts on heaps; no run of the program. No condition but those of an order. -/
import Derived.Test.YtjampcfikfafkaaBytes
namespace Go.Proofs.Ytjampcfikfafkaa

section
variable {α : Type} {lt : α → α → Prop}

/-- Two places are swapped. -/
def sw (f : Nat → α) (i j : Nat) : Nat → α := fun k => if k = i then f j else if k = j then f i else f k
theorem sw_i (f : Nat → α) (i j : Nat) : sw f i j i = f j := by simp [sw]
theorem sw_j (f : Nat → α) (i j : Nat) : sw f i j j = f i := by
  unfold sw
  by_cases h : j = i
  · rw [if_pos h, h]
  · rw [if_neg h, if_pos rfl]
theorem sw_o (f : Nat → α) {i j k : Nat} (h1 : k ≠ i) (h2 : k ≠ j) : sw f i j k = f k := by simp [sw, h1, h2]

/-- A heap: nobody is less than who stands above. -/
def hpOK (lt : α → α → Prop) (f : Nat → α) (n : Nat) : Prop := ∀ k, 0 < k → k < n → ¬ lt (f k) (f ((k - 1) / 2))
/-- A heap but at the place j, on the way up. -/
def upOK (lt : α → α → Prop) (f : Nat → α) (n j : Nat) : Prop := (∀ k, 0 < k → k < n → k ≠ j → ¬ lt (f k) (f ((k - 1) / 2))) ∧ (∀ k, 0 < k → k < n → (k - 1) / 2 = j → 0 < j → ¬ lt (f k) (f ((j - 1) / 2)))
/-- A heap but below the place i, on the way down. -/
def dnOK (lt : α → α → Prop) (f : Nat → α) (n i : Nat) : Prop := (∀ k, 0 < k → k < n → (k - 1) / 2 ≠ i → ¬ lt (f k) (f ((k - 1) / 2))) ∧ (∀ k, 0 < k → k < n → (k - 1) / 2 = i → 0 < i → ¬ lt (f k) (f ((i - 1) / 2)))

theorem up_push {f : Nat → α} {n : Nat} (h : hpOK lt f n) : upOK lt f (n + 1) n :=
  ⟨fun k h0 h1 h2 => h k h0 (by omega), fun k h0 h1 h2 h3 => by omega⟩
theorem up_done {f : Nat → α} {n j : Nat} (h : upOK lt f n j) (hj : j = 0 ∨ ¬ lt (f j) (f ((j - 1) / 2))) : hpOK lt f n := by
  intro k h0 h1
  by_cases e : k = j
  · subst e
    rcases hj with rfl | hj
    · omega
    · exact hj
  · exact h.1 k h0 h1 e

theorem up_step (tr : ∀ a b c, ¬ lt b a → ¬ lt c b → ¬ lt c a) (asy : ∀ a b, lt a b → ¬ lt b a) {f : Nat → α} {n j : Nat} (h : upOK lt f n j) (h0 : 0 < j) (hn : j < n) (hl : lt (f j) (f ((j - 1) / 2))) : upOK lt (sw f ((j - 1) / 2) j) n ((j - 1) / 2) := by
  obtain ⟨h1, h2⟩ := h
  have hij : (j - 1) / 2 < j := by omega
  have hs := asy _ _ hl
  generalize hi : (j - 1) / 2 = i at *
  refine ⟨fun k k0 kn ki => ?_, fun k k0 kn ki i0 => ?_⟩
  · by_cases kj : k = j
    · subst kj
      rw [sw_j, hi, sw_i]
      exact hs
    · rw [sw_o f ki kj]
      by_cases e1 : (k - 1) / 2 = i
      · rw [e1, sw_i]
        have := h1 k k0 kn kj
        rw [e1] at this
        exact tr _ _ _ hs this
      · by_cases e2 : (k - 1) / 2 = j
        · rw [e2, sw_j]
          have := h2 k k0 kn e2 h0
          exact this
        · rw [sw_o f e1 e2]
          exact h1 k k0 kn kj
  · rw [sw_o f (show (i - 1) / 2 ≠ i by omega) (show (i - 1) / 2 ≠ j by omega)]
    have hii := h1 i i0 (by omega) (by omega)
    by_cases kj : k = j
    · subst kj
      rw [sw_j]
      exact hii
    · rw [sw_o f (show k ≠ i by omega) kj]
      have := h1 k k0 kn kj
      rw [ki] at this
      exact tr _ _ _ hii this

theorem dn_pop {f : Nat → α} {n : Nat} (h : hpOK lt f (n + 1)) : dnOK lt (sw f 0 n) n 0 := by
  refine ⟨fun k h0 h1 h2 => ?_, fun k h0 h1 h2 h3 => by omega⟩
  rw [sw_o f (by omega) (by omega), sw_o f h2 (by omega)]
  exact h k h0 (by omega)
theorem dn_done {f : Nat → α} {n i : Nat} (h : dnOK lt f n i) (hc : ∀ k, 0 < k → k < n → (k - 1) / 2 = i → ¬ lt (f k) (f i)) : hpOK lt f n := by
  intro k h0 h1
  by_cases e : (k - 1) / 2 = i
  · rw [e]
    exact hc k h0 h1 e
  · exact h.1 k h0 h1 e
theorem dn_step (asy : ∀ a b, lt a b → ¬ lt b a) {f : Nat → α} {n i j : Nat} (h : dnOK lt f n i) (hj0 : 0 < j) (hj : j < n) (hp : (j - 1) / 2 = i) (hl : lt (f j) (f i)) (hc : ∀ k, 0 < k → k < n → (k - 1) / 2 = i → ¬ lt (f k) (f j)) : dnOK lt (sw f i j) n j := by
  obtain ⟨h1, h2⟩ := h
  have hij : i < j := by omega
  refine ⟨fun k k0 kn kp => ?_, fun k k0 kn kp j0 => ?_⟩
  · by_cases e1 : (k - 1) / 2 = i
    · rw [e1, sw_i]
      by_cases kj : k = j
      · subst kj
        rw [sw_j]
        exact asy _ _ hl
      · rw [sw_o f (show k ≠ i by omega) kj]
        exact hc k k0 kn e1
    · rw [sw_o f e1 kp]
      by_cases ki : k = i
      · subst ki
        rw [sw_i]
        exact h2 j hj0 hj hp k0
      · by_cases kj : k = j
        · subst kj
          exact absurd hp e1
        · rw [sw_o f ki kj]
          exact h1 k k0 kn e1
  · rw [hp, sw_i, sw_o f (show k ≠ i by omega) (show k ≠ j by omega)]
    have := h1 k k0 kn (by omega)
    rw [kp] at this
    exact this

/-- Who stands on top is the least. -/
theorem hp_top (tr : ∀ a b c, ¬ lt b a → ¬ lt c b → ¬ lt c a) (irr : ∀ a, ¬ lt a a) {f : Nat → α} {n : Nat} (h : hpOK lt f n) : ∀ k, k < n → ¬ lt (f k) (f 0) := by
  intro k
  induction k using Nat.strongRecOn with
  | _ k ih =>
    intro hk
    rcases Nat.eq_zero_or_pos k with rfl | h0
    · exact irr _
    · exact tr _ _ _ (ih ((k - 1) / 2) (by omega) (by omega)) (h k h0 hk)
end

end Go.Proofs.Ytjampcfikfafkaa
