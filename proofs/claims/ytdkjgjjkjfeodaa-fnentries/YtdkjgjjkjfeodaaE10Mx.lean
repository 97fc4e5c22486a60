/- What is proved here: facts on entries in lists of bytes: the size of the one ahead, where each begins. -/
import Derived.Test.YtdkjgjjkjfeodaaE10Pi
namespace Go.Proofs.Ytdkjgjjkjfeodaa
set_option linter.unusedVariables false

/-- How great the entry at the beginning is; 0 where there is none. -/
def eSz (zs : List Int) : Nat :=
  if 8 ≤ 3 + (zs[0]?.getD 0).toNat ∧ 3 + (zs[0]?.getD 0).toNat ≤ zs.length ∧ enF (numAt zs 3 2) (zs[5]?.getD 0) (zs[6]?.getD 0) (3 + (zs[0]?.getD 0).toNat - 8) = 0 ∧
      enP (numAt zs 3 2) (zs[5]?.getD 0) (zs[6]?.getD 0) ((zs.drop 8).take (3 + (zs[0]?.getD 0).toNat - 8)) = zs.take (3 + (zs[0]?.getD 0).toNat) then 3 + (zs[0]?.getD 0).toNat else 0

theorem eSz_le (zs : List Int) : eSz zs ≤ zs.length := by
  unfold eSz
  split
  · exact (by rename_i h; exact h.2.1)
  · exact Nat.zero_le _
theorem eSz_ge {zs : List Int} (h : 0 < eSz zs) : 8 ≤ eSz zs := by
  unfold eSz at h ⊢
  split
  · rename_i h1; exact h1.1
  · rename_i h1; rw [if_neg h1] at h; omega
theorem eSz_is {zs : List Int} (h : 0 < eSz zs) : eSz zs = 3 + (zs[0]?.getD 0).toNat := by
  unfold eSz at h ⊢
  split
  · rfl
  · rename_i h1; rw [if_neg h1] at h; omega
theorem eSz_nil : eSz [] = 0 := by simp [eSz]
theorem eSz_yes {zs : List Int} {m : Nat} {z5 z6 : Int} (h0 : zs[0]?.getD 0 = (m : Int)) (h5 : zs[5]?.getD 0 = z5) (h6 : zs[6]?.getD 0 = z6) (h8 : 8 ≤ 3 + m) (hl : 3 + m ≤ zs.length)
    (he : (if enF (numAt zs 3 2) z5 z6 (3 + m - 8) = 0 then enP (numAt zs 3 2) z5 z6 ((zs.drop 8).take (3 + m - 8)) else []) = zs.take (3 + m)) : eSz zs = 3 + m := by
  have hf : enF (numAt zs 3 2) z5 z6 (3 + m - 8) = 0 := by
    by_cases hf : enF (numAt zs 3 2) z5 z6 (3 + m - 8) = 0
    · exact hf
    · rw [if_neg hf] at he
      have := congrArg List.length he
      simp only [List.length_nil, List.length_take] at this
      omega
  rw [if_pos hf] at he
  unfold eSz
  rw [h0, h5, h6, Int.toNat_natCast, if_pos ⟨h8, hl, hf, he⟩]
theorem eSz_no {zs : List Int} {m : Nat} {z5 z6 : Int} (h0 : zs[0]?.getD 0 = (m : Int)) (h5 : zs[5]?.getD 0 = z5) (h6 : zs[6]?.getD 0 = z6)
    (he : ¬ (if enF (numAt zs 3 2) z5 z6 (3 + m - 8) = 0 then enP (numAt zs 3 2) z5 z6 ((zs.drop 8).take (3 + m - 8)) else []) = zs.take (3 + m)) : eSz zs = 0 := by
  unfold eSz
  rw [h0, h5, h6, Int.toNat_natCast]
  rw [if_neg]
  rintro ⟨_, _, hf, hp⟩
  rw [if_pos hf] at he
  exact he hp

/-- Where entries begin, from a place on; how many bytes these are. -/
def eAts (zs : List Int) (t : Nat) : List Nat := if h : 0 < eSz (zs.drop t) then t :: eAts zs (t + eSz (zs.drop t)) else []
termination_by zs.length - t
decreasing_by have := eSz_le (zs.drop t); simp only [List.length_drop] at this; omega

def eUse (zs : List Int) (t : Nat) : Nat := if h : 0 < eSz (zs.drop t) then eUse zs (t + eSz (zs.drop t)) else t
termination_by zs.length - t
decreasing_by have := eSz_le (zs.drop t); simp only [List.length_drop] at this; omega

theorem eAts_pos {zs : List Int} {t : Nat} (h : 0 < eSz (zs.drop t)) : eAts zs t = t :: eAts zs (t + eSz (zs.drop t)) := by rw [eAts, dif_pos h]
theorem eAts_zero {zs : List Int} {t : Nat} (h : ¬ 0 < eSz (zs.drop t)) : eAts zs t = [] := by rw [eAts, dif_neg h]
theorem eUse_pos {zs : List Int} {t : Nat} (h : 0 < eSz (zs.drop t)) : eUse zs t = eUse zs (t + eSz (zs.drop t)) := by rw [eUse, dif_pos h]
theorem eUse_zero {zs : List Int} {t : Nat} (h : ¬ 0 < eSz (zs.drop t)) : eUse zs t = t := by rw [eUse, dif_neg h]

theorem eUse_ge (zs : List Int) : ∀ (m t : Nat), zs.length - t ≤ m → t ≤ eUse zs t
  | 0, t, h => by
    have h1 := eSz_le (zs.drop t)
    simp only [List.length_drop] at h1
    rw [eUse_zero (by omega)]
    exact Nat.le_refl _
  | m + 1, t, h => by
    by_cases h1 : 0 < eSz (zs.drop t)
    · rw [eUse_pos h1]
      have h2 := eUse_ge zs m (t + eSz (zs.drop t)) (by omega)
      omega
    · rw [eUse_zero h1]
      exact Nat.le_refl _
theorem eUse_le (zs : List Int) : ∀ (m t : Nat), zs.length - t ≤ m → t ≤ zs.length → eUse zs t ≤ zs.length
  | 0, t, h, h' => by
    have h1 := eSz_le (zs.drop t)
    simp only [List.length_drop] at h1
    rw [eUse_zero (by omega)]
    exact h'
  | m + 1, t, h, h' => by
    have h3 := eSz_le (zs.drop t)
    simp only [List.length_drop] at h3
    by_cases h1 : 0 < eSz (zs.drop t)
    · rw [eUse_pos h1]
      exact eUse_le zs m (t + eSz (zs.drop t)) (by omega) (by omega)
    · rw [eUse_zero h1]
      exact h'

/-- The entries that begin at these places have come, and the next one begins here. -/
inductive Come (zs : List Int) : List Nat → Nat → Prop
  | nil : Come zs [] 0
  | snoc {pre : List Nat} {t : Nat} (h : Come zs pre t) (hp : 0 < eSz (zs.drop t)) : Come zs (pre ++ [t]) (t + eSz (zs.drop t))

theorem Come.le {zs : List Int} {pre : List Nat} {t : Nat} (h : Come zs pre t) : t ≤ zs.length := by
  induction h with
  | nil => exact Nat.zero_le _
  | @snoc pre t h hp ih =>
    have h1 := eSz_le (zs.drop t)
    simp only [List.length_drop] at h1
    omega
theorem Come.len {zs : List Int} {pre : List Nat} {t : Nat} (h : Come zs pre t) : pre.length * 8 ≤ t := by
  induction h with
  | nil => simp
  | @snoc pre t h hp ih =>
    have h1 := eSz_ge hp
    simp only [List.length_append, List.length_cons, List.length_nil]
    omega
theorem Come.ats {zs : List Int} {pre : List Nat} {t : Nat} (h : Come zs pre t) : eAts zs 0 = pre ++ eAts zs t := by
  induction h with
  | nil => simp
  | @snoc pre t h hp ih =>
    rw [ih, eAts_pos hp]
    simp
theorem Come.use {zs : List Int} {pre : List Nat} {t : Nat} (h : Come zs pre t) : eUse zs 0 = eUse zs t := by
  induction h with
  | nil => rfl
  | @snoc pre t h hp ih => rw [ih, eUse_pos hp]
theorem Come.all {zs : List Int} {pre : List Nat} {t : Nat} (h : Come zs pre t) (h0 : ¬ 0 < eSz (zs.drop t)) : pre = eAts zs 0 ∧ eUse zs 0 = t := by
  refine ⟨?_, ?_⟩
  · rw [h.ats, eAts_zero h0]; simp
  · rw [h.use, eUse_zero h0]

end Go.Proofs.Ytdkjgjjkjfeodaa
