/- What is proved here: plain facts on frames that are packed and split again; no run of the program. -/
import Derived.Test.YtopkihgdemcneaaFrsLib
namespace Go.Proofs.Ytopkihgdemcneaa

/-- A frame that can be packed. -/
def Good (x : Int × List Int) : Prop := 1 ≤ x.1 ∧ x.1 ≤ 4 ∧ x.2.length ≤ 120 ∧ ∀ z ∈ x.2, 0 ≤ z ∧ z ≤ 255
def flatP (fs : List (Int × List Int)) : List Int := fs.flatMap (fun x => packOf x.1 x.2)
theorem flatP_cons (x : Int × List Int) (fs : List (Int × List Int)) : flatP (x :: fs) = packOf x.1 x.2 ++ flatP fs := rfl
theorem flatP_snoc (fs : List (Int × List Int)) (x : Int × List Int) : flatP (fs ++ [x]) = flatP fs ++ packOf x.1 x.2 := by simp [flatP]
theorem packOf_cons (k : Int) (zs r : List Int) : packOf k zs ++ r = 255 :: 255 :: (((zs.length : Int) + 5) / 256) :: (((zs.length : Int) + 5) % 256) :: k :: (zs ++ r) := by simp [packOf]

theorem num_two (a b : Int) : num [a, b] = a * 256 + b := by simp [num]
theorem numAt_pack (a b p q : Int) (r : List Int) : numAt (p :: q :: a :: b :: r) 2 2 = a * 256 + b := by
  unfold numAt
  simp only [List.drop_succ_cons, List.drop_zero, List.take_succ_cons, List.take_zero]
  exact num_two a b

theorem head_pack {k : Int} {zs : List Int} (h : Good (k, zs)) (r : List Int) : headM (packOf k zs ++ r) = 0 ∧ szM (packOf k zs ++ r) = zs.length + 5 ∧ (packOf k zs ++ r).getD 4 0 = k ∧ ((packOf k zs ++ r).take (zs.length + 5)).drop 5 = zs ∧ (packOf k zs ++ r).drop (zs.length + 5) = r := by
  obtain ⟨h1, h2, h3, _⟩ := h
  simp only at h1 h2 h3
  have hn : ((zs.length : Int) + 5) / 256 * 256 + ((zs.length : Int) + 5) % 256 = (zs.length : Int) + 5 := by omega
  refine ⟨?_, ?_, ?_, ?_, ?_⟩
  · rw [packOf_cons]
    unfold headM
    rw [numAt_pack, hn, if_neg (by simp), if_neg (by simp), if_neg (by omega), if_neg (by simp; omega)]
  · rw [packOf_cons]
    unfold szM
    rw [numAt_pack, hn]
    omega
  · rw [packOf_cons]; rfl
  · rw [List.take_left' (by rw [packOf_length])]
    simp [packOf]
  · exact List.drop_left' (by rw [packOf_length])

theorem split_nil (f : Nat) : splitF f [] = (0, 0, []) := by
  cases f with
  | zero => rfl
  | succ f => unfold splitF; rw [if_neg (by decide), if_pos (by left; simp)]

theorem split_pack {k : Int} {zs : List Int} (h : Good (k, zs)) (r : List Int) (f : Nat) : splitF (f + 1) (packOf k zs ++ r) = ((splitF f r).1, zs.length + 5 + (splitF f r).2.1, (k, zs) :: (splitF f r).2.2) := by
  obtain ⟨a1, a2, a3, a4, a5⟩ := head_pack h r
  have hl : (packOf k zs ++ r).length = zs.length + 5 + r.length := by rw [List.length_append, packOf_length]
  rw [splitF, if_neg (by simp [a1]), if_neg (by rw [a2, hl]; omega), a2, a3, a4, a5]

/-- All frames that stand one behind the other are told. -/
theorem split_all (fs : List (Int × List Int)) : ∀ f, fs.length < f → (∀ x ∈ fs, Good x) → splitF f (flatP fs) = (0, (flatP fs).length, fs) := by
  induction fs with
  | nil => intro f _ _; exact split_nil f
  | cons x fs ih =>
    intro f hf hg
    obtain ⟨k, zs⟩ := x
    cases f with
    | zero => omega
    | succ f =>
      rw [flatP_cons, split_pack (hg _ (by simp)), ih f (by simpa using hf) (fun y hy => hg y (by simp [hy]))]
      simp [packOf_length]

theorem headM_short {l r : List Int} (h : headM (l ++ r) = 0) : headM l = 0 := by
  have n22 : 4 ≤ l.length → numAt (l ++ r) 2 2 = numAt l 2 2 := by
    intro h4
    unfold numAt
    rw [List.drop_append_of_le_length (by omega), List.take_append_of_le_length (by rw [List.length_drop]; omega)]
  have g : ∀ i, i < l.length → (l ++ r).getD i 0 = l.getD i 0 := by
    intro i hi
    simp only [List.getD_eq_getElem?_getD]
    rw [List.getElem?_append_left hi]
  unfold headM at h ⊢
  have hlen : (l ++ r).length = l.length + r.length := List.length_append
  by_cases c0 : 0 < l.length ∧ l.getD 0 0 ≠ 255
  · rw [if_pos ⟨by omega, by rw [g 0 c0.1]; exact c0.2⟩] at h; omega
  · by_cases d0 : 0 < (l ++ r).length ∧ (l ++ r).getD 0 0 ≠ 255
    · rw [if_pos d0] at h; omega
    · rw [if_neg d0] at h
      rw [if_neg c0]
      by_cases c1 : 1 < l.length ∧ l.getD 1 0 ≠ 255
      · rw [if_pos ⟨by omega, by rw [g 1 c1.1]; exact c1.2⟩] at h; omega
      · by_cases d1 : 1 < (l ++ r).length ∧ (l ++ r).getD 1 0 ≠ 255
        · rw [if_pos d1] at h; omega
        · rw [if_neg d1] at h
          rw [if_neg c1]
          by_cases d2 : 3 < (l ++ r).length ∧ (numAt (l ++ r) 2 2 < 5 ∨ 125 < numAt (l ++ r) 2 2)
          · rw [if_pos d2] at h; omega
          · rw [if_neg d2] at h
            have c2 : ¬ (3 < l.length ∧ (numAt l 2 2 < 5 ∨ 125 < numAt l 2 2)) := by
              rintro ⟨x1, x2⟩
              exact d2 ⟨by omega, by rw [n22 (by omega)]; exact x2⟩
            rw [if_neg c2]
            by_cases d3 : 4 < (l ++ r).length ∧ ((l ++ r).getD 4 0 < 1 ∨ 4 < (l ++ r).getD 4 0)
            · rw [if_pos d3] at h; omega
            · have c3 : ¬ (4 < l.length ∧ (l.getD 4 0 < 1 ∨ 4 < l.getD 4 0)) := by
                rintro ⟨x1, x2⟩
                exact d3 ⟨by omega, by rw [g 4 x1]; exact x2⟩
              rw [if_neg c3]

/-- Of a beginning the first frames are told. -/
theorem split_cut (fs : List (Int × List Int)) : ∀ f c, fs.length < f → (∀ x ∈ fs, Good x) → ∃ j, j ≤ fs.length ∧ splitF f ((flatP fs).take c) = (0, (flatP (fs.take j)).length, fs.take j) ∧ (flatP (fs.take j)).length ≤ c := by
  induction fs with
  | nil => intro f c _ _; exact ⟨0, Nat.le_refl _, by simp [flatP, split_nil], by simp [flatP]⟩
  | cons x fs ih =>
    intro f c hf hg
    obtain ⟨k, zs⟩ := x
    have hx := hg (k, zs) (by simp)
    cases f with
    | zero => omega
    | succ f =>
      by_cases hc : zs.length + 5 ≤ c
      · have e : (flatP ((k, zs) :: fs)).take c = packOf k zs ++ (flatP fs).take (c - (zs.length + 5)) := by
          rw [flatP_cons, List.take_append, packOf_length, List.take_of_length_le (by rw [packOf_length]; omega)]
        obtain ⟨j, hj, h1, h2⟩ := ih f (c - (zs.length + 5)) (by simpa using hf) (fun y hy => hg y (by simp [hy]))
        refine ⟨j + 1, by simp; omega, ?_, ?_⟩
        · rw [e, split_pack hx, h1]
          simp [flatP_cons, packOf_length]
        · simp only [List.take_succ_cons, flatP_cons, List.length_append, packOf_length]; omega
      · refine ⟨0, Nat.zero_le _, ?_, by simp [flatP]⟩
        have e : (flatP ((k, zs) :: fs)).take c = (packOf k zs).take c := by
          rw [flatP_cons]
          exact List.take_append_of_le_length (by rw [packOf_length]; show c ≤ zs.length + 5; omega)
        obtain ⟨a1, a2, _⟩ := head_pack hx []
        rw [List.append_nil] at a1 a2
        have hlen : ((packOf k zs).take c).length = c := by rw [List.length_take, packOf_length]; omega
        have hh : headM ((packOf k zs).take c) = 0 := headM_short (r := (packOf k zs).drop c) (by rw [List.take_append_drop]; exact a1)
        have hs : ((packOf k zs).take c).length < 5 ∨ ((packOf k zs).take c).length < szM ((packOf k zs).take c) := by
          by_cases h5 : c < 5
          · left; omega
          · right
            have : szM ((packOf k zs).take c) = zs.length + 5 := by
              rw [← a2]
              unfold szM numAt
              have : ((packOf k zs).take c).drop 2 = ((packOf k zs).drop 2).take (c - 2) := by rw [List.drop_take]
              rw [this, List.take_take, Nat.min_eq_left (by omega)]
            omega
        rw [e, splitF, if_neg (by simp [hh]), if_pos hs]
        simp [flatP]

/-- What is used is just the frames that are told. -/
theorem split_back (f : Nat) : ∀ l : List Int, (∀ z ∈ l, 0 ≤ z ∧ z ≤ 255) → flatP (splitF f l).2.2 = l.take (splitF f l).2.1 ∧ ∀ x ∈ (splitF f l).2.2, Good x := by
  induction f with
  | zero => intro l _; simp [splitF, flatP]
  | succ f ih =>
    intro l hz
    by_cases h1 : headM l ≠ 0
    · rw [splitF, if_pos h1]; simp [flatP]
    · by_cases h2 : l.length < 5 ∨ l.length < szM l
      · rw [splitF, if_neg h1, if_pos h2]; simp [flatP]
      · rw [splitF, if_neg h1, if_neg h2]
        have hk := head_ok (l := l) (by omega) (by omega)
        obtain ⟨k1, k2, k3, k4, k5, k6, k7⟩ := hk
        obtain ⟨i1, i2⟩ := ih (l.drop (szM l)) (fun z hz' => hz z (List.mem_of_mem_drop hz'))
        have hpk : packOf (l.getD 4 0) ((l.take (szM l)).drop 5) = l.take (szM l) := by
          have hn : numAt l 2 2 = (szM l : Int) := k7.symm
          generalize hs : szM l = s at *
          match l, h2 with
          | z0 :: z1 :: z2 :: z3 :: z4 :: r, h2 =>
            have e2 := hz z2 (by simp)
            have e3 := hz z3 (by simp)
            rw [numAt_pack] at hn
            simp only [List.getD_cons_zero, List.getD_cons_succ] at k5 k6 ⊢
            obtain ⟨m, rfl⟩ : ∃ m, s = m + 5 := ⟨s - 5, by omega⟩
            have hl : (List.take m r).length = m := by rw [List.length_take]; simp only [List.length_cons] at h2; omega
            simp only [List.take_succ_cons, List.drop_succ_cons, List.drop_zero, packOf, hl, List.cons_append, List.nil_append]
            have f2 : ((m : Int) + 5) / 256 = z2 := by omega
            have f3 : ((m : Int) + 5) % 256 = z3 := by omega
            rw [f2, f3, k5, k6]
          | [], h2 => simp at h2
          | [_], h2 => simp at h2
          | [_, _], h2 => simp at h2
          | [_, _, _], h2 => simp at h2
          | [_, _, _, _], h2 => simp at h2
        refine ⟨?_, ?_⟩
        · simp only
          rw [flatP_cons, hpk, i1, ← List.take_add]
        · intro x hx
          simp only [List.mem_cons] at hx
          rcases hx with rfl | hx
          · refine ⟨k3, k4, by simp only [List.length_drop, List.length_take]; omega, fun z hz' => hz z (List.mem_of_mem_take (List.mem_of_mem_drop hz'))⟩
          · exact i2 x hx

end Go.Proofs.Ytopkihgdemcneaa
