/- What is proved here: plain facts on the splitting of a list of bytes into frames, and on lists of frames in memory; no run of the program. -/
import Derived.Test.YtopkihgdemcneaaPackFn
namespace Go.Proofs.Ytopkihgdemcneaa
open Go.RowKit

/-- What is wrong with the head of a frame, as far as it is there. -/
def headM (l : List Int) : Int :=
  if 0 < l.length ∧ l.getD 0 0 ≠ 255 then 1 else if 1 < l.length ∧ l.getD 1 0 ≠ 255 then 1
  else if 3 < l.length ∧ (numAt l 2 2 < 5 ∨ 125 < numAt l 2 2) then 2 else if 4 < l.length ∧ (l.getD 4 0 < 1 ∨ 4 < l.getD 4 0) then 3 else 0
/-- The size that the head says. -/
def szM (l : List Int) : Nat := (numAt l 2 2).toNat
/-- The frames at the beginning, with fuel. -/
def splitF : Nat → List Int → Int × Nat × List (Int × List Int)
  | 0, _ => (0, 0, [])
  | f + 1, l => if headM l ≠ 0 then (headM l, 0, []) else if l.length < 5 ∨ l.length < szM l then (0, 0, [])
    else ((splitF f (l.drop (szM l))).1, szM l + (splitF f (l.drop (szM l))).2.1, (l.getD 4 0, (l.take (szM l)).drop 5) :: (splitF f (l.drop (szM l))).2.2)

theorem head_ok {l : List Int} (h : headM l = 0) (h5 : 5 ≤ l.length) : 5 ≤ szM l ∧ szM l ≤ 125 ∧ 1 ≤ l.getD 4 0 ∧ l.getD 4 0 ≤ 4 ∧ l.getD 0 0 = 255 ∧ l.getD 1 0 = 255 ∧ (szM l : Int) = numAt l 2 2 := by
  unfold headM at h
  split at h
  · omega
  · split at h
    · omega
    · split at h
      · omega
      · split at h
        · omega
        · unfold szM; omega

/-- What is told of the bytes behind the first u, once the frames fs have been told. -/
def SplitAt (zs : List Int) (u : Nat) (fs : List (Int × List Int)) (R : Int × Nat × List (Int × List Int)) : Prop :=
  ∃ f, zs.length < u + f ∧ R = ((splitF f (zs.drop u)).1, u + (splitF f (zs.drop u)).2.1, fs ++ (splitF f (zs.drop u)).2.2)

theorem SplitAt.start (zs : List Int) : SplitAt zs 0 [] (splitF (zs.length + 1) zs) := ⟨zs.length + 1, by omega, by simp⟩
theorem SplitAt.stop {zs : List Int} {u : Nat} {fs : List (Int × List Int)} {R : Int × Nat × List (Int × List Int)} (h : SplitAt zs u fs R) (hu : u ≤ zs.length) (hh : headM (zs.drop u) ≠ 0) : R = (headM (zs.drop u), u, fs) := by
  obtain ⟨f, hf, rfl⟩ := h
  cases f with
  | zero => omega
  | succ f => simp [splitF, hh]
theorem SplitAt.done {zs : List Int} {u : Nat} {fs : List (Int × List Int)} {R : Int × Nat × List (Int × List Int)} (h : SplitAt zs u fs R) (hu : u ≤ zs.length) (hh : headM (zs.drop u) = 0) (hs : (zs.drop u).length < 5 ∨ (zs.drop u).length < szM (zs.drop u)) : R = (0, u, fs) := by
  obtain ⟨f, hf, rfl⟩ := h
  cases f with
  | zero => omega
  | succ f => rw [splitF, if_neg (by simp [hh]), if_pos hs]; simp
theorem SplitAt.next {zs : List Int} {u : Nat} {fs : List (Int × List Int)} {R : Int × Nat × List (Int × List Int)} (h : SplitAt zs u fs R) (hu : u ≤ zs.length) (hh : headM (zs.drop u) = 0) (h5 : 5 ≤ (zs.drop u).length) (hs : szM (zs.drop u) ≤ (zs.drop u).length) :
    SplitAt zs (u + szM (zs.drop u)) (fs ++ [((zs.drop u).getD 4 0, ((zs.drop u).take (szM (zs.drop u))).drop 5)]) R := by
  obtain ⟨f, hf, rfl⟩ := h
  have h5' := head_ok hh h5
  cases f with
  | zero => omega
  | succ f =>
    refine ⟨f, by omega, ?_⟩
    rw [splitF, if_neg (by simp [hh]), if_neg (by omega), List.drop_drop]
    simp [Nat.add_assoc]

end Go.Proofs.Ytopkihgdemcneaa
