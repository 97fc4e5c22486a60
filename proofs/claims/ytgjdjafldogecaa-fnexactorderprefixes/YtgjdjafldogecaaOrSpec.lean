/- What is proved here: the model's putting of a prefix into its place, as a plain function, and that the list it makes is the program's. Plain words, and the model's comparing. -/
import Derived.Test.YtgjdjafldogecaaOrImpl
namespace Go.Proofs.Ytgjdjafldogecaa
open Go.RowKit Go.Sort Go.Shelf

/-- p stands ahead of q. -/
abbrev Lt (p q : Int × Int) : Prop := p.1 < q.1 ∨ (p.1 = q.1 ∧ p.2 < q.2)
theorem Lt.trans {p q r : Int × Int} (h : Lt p q) (k : Lt q r) : Lt p r := by unfold Lt at *; omega
theorem Lt.irrefl {p : Int × Int} : ¬ Lt p p := by unfold Lt; omega
theorem Lt.total {p q : Int × Int} (h : ¬ Lt p q) (k : p ≠ q) : Lt q p := by
  obtain ⟨a, b⟩ := p
  obtain ⟨c, d⟩ := q
  unfold Lt at *
  simp only [ne_eq, Prod.mk.injEq] at *
  omega

/-- How many of the first are ahead. -/
def atP (p : Int × Int) : List (Int × Int) → Nat
  | [] => 0
  | q :: L => if Lt q p then atP p L + 1 else 0
def putP (L : List (Int × Int)) (p : Int × Int) : List (Int × Int) := if L[atP p L]? = some p then L else L.take (atP p L) ++ [p] ++ L.drop (atP p L)

theorem atP_le (p : Int × Int) : ∀ L : List (Int × Int), atP p L ≤ L.length
  | [] => Nat.le_refl _
  | q :: L => by
    unfold atP
    split
    · have := atP_le p L; simp; omega
    · simp
theorem atP_lt (p : Int × Int) : ∀ (L : List (Int × Int)) (k : Nat) (q : Int × Int), k < atP p L → L[k]? = some q → Lt q p
  | [], k, q, h, _ => by simp [atP] at h
  | r :: L, 0, q, h, e => by
    simp at e
    subst e
    unfold atP at h
    split at h
    · assumption
    · omega
  | r :: L, k + 1, q, h, e => by
    unfold atP at h
    split at h
    · exact atP_lt p L k q (by omega) (by simpa using e)
    · omega
theorem atP_at (p : Int × Int) : ∀ (L : List (Int × Int)) (q : Int × Int), L[atP p L]? = some q → ¬ Lt q p
  | [], q, e => by simp at e
  | r :: L, q, e => by
    unfold atP at e
    split at e
    · exact atP_at p L q (by simpa using e)
    · simp at e; subst e; assumption
/-- It is told by these two. -/
theorem atP_is {p : Int × Int} : ∀ {L : List (Int × Int)} {k : Nat}, k ≤ L.length → (∀ j q, j < k → L[j]? = some q → Lt q p) → (∀ q, L[k]? = some q → ¬ Lt q p) → atP p L = k
  | [], k, h, _, _ => by simp at h; subst h; rfl
  | r :: L, 0, _, _, h2 => by
    unfold atP
    rw [if_neg (h2 r (by simp))]
  | r :: L, k + 1, h, h1, h2 => by
    unfold atP
    rw [if_pos (h1 0 r (by omega) (by simp)), atP_is (L := L) (k := k) (by simpa using h) (fun j q hj e => h1 (j + 1) q (by omega) (by simpa using e)) (fun q e => h2 q (by simpa using e))]

theorem putP_cons (q : Int × Int) (L : List (Int × Int)) (p : Int × Int) : putP (q :: L) p = if Lt q p then q :: putP L p else if q = p then q :: L else p :: q :: L := by
  by_cases h : Lt q p
  · have e : atP p (q :: L) = atP p L + 1 := by rw [atP, if_pos h]
    rw [if_pos h]
    unfold putP
    rw [e]
    simp only [List.getElem?_cons_succ, List.take_succ_cons, List.drop_succ_cons]
    split <;> rfl
  · have e : atP p (q :: L) = 0 := by rw [atP, if_neg h]
    rw [if_neg h]
    unfold putP
    rw [e]
    simp

theorem mem_putP {p r : Int × Int} : ∀ {L : List (Int × Int)}, r ∈ putP L p ↔ r ∈ L ∨ r = p
  | [] => by simp [putP, atP]
  | q :: L => by
    rw [putP_cons]
    split
    · rw [List.mem_cons, mem_putP, List.mem_cons]
      constructor
      · rintro (h | h | h)
        · exact .inl (.inl h)
        · exact .inl (.inr h)
        · exact .inr h
      · rintro ((h | h) | h)
        · exact .inl h
        · exact .inr (.inl h)
        · exact .inr (.inr h)
    · split
      · rename_i h
        subst h
        constructor
        · exact .inl
        · rintro (h | rfl)
          · exact h
          · exact List.mem_cons_self
      · rw [List.mem_cons]
        constructor
        · rintro (h | h)
          · exact .inr h
          · exact .inl h
        · rintro (h | h)
          · exact .inr h
          · exact .inl h

theorem sorted_putP {p : Int × Int} : ∀ {L : List (Int × Int)}, L.Pairwise Lt → (putP L p).Pairwise Lt
  | [], _ => by simp [putP, atP]
  | q :: L, h => by
    rw [List.pairwise_cons] at h
    rw [putP_cons]
    split
    · rename_i hq
      rw [List.pairwise_cons]
      refine ⟨fun r hr => ?_, sorted_putP h.2⟩
      rcases mem_putP.1 hr with hr | rfl
      · exact h.1 r hr
      · exact hq
    · rename_i hq
      split
      · exact List.pairwise_cons.2 h
      · rename_i hne
        have hpq := Lt.total hq hne
        rw [List.pairwise_cons]
        refine ⟨fun r hr => ?_, List.pairwise_cons.2 h⟩
        rcases List.mem_cons.1 hr with rfl | hr
        · exact hpq
        · exact hpq.trans (h.1 r hr)

/-- The list of the model. -/
def ordP (ps : List (Int × Int)) : List (Int × Int) := ps.foldl putP []
theorem ordP_snoc (ps : List (Int × Int)) (p : Int × Int) : ordP (ps ++ [p]) = putP (ordP ps) p := by simp [ordP]
theorem ordP_fold (r : Int × Int) : ∀ (ps acc : List (Int × Int)), acc.Pairwise Lt → (ps.foldl putP acc).Pairwise Lt ∧ (r ∈ ps.foldl putP acc ↔ r ∈ acc ∨ r ∈ ps)
  | [], acc, h => ⟨h, by simp⟩
  | p :: ps, acc, h => by
    obtain ⟨h1, h2⟩ := ordP_fold r ps (putP acc p) (sorted_putP h)
    refine ⟨h1, ?_⟩
    rw [List.foldl_cons, h2, mem_putP, List.mem_cons]
    constructor
    · rintro ((h | h) | h)
      · exact .inl h
      · exact .inr (.inl h)
      · exact .inr (.inr h)
    · rintro (h | h | h)
      · exact .inl (.inl h)
      · exact .inl (.inr h)
      · exact .inr h

theorem one_list : ∀ {L M : List (Int × Int)}, L.Pairwise Lt → M.Pairwise Lt → (∀ r, r ∈ L ↔ r ∈ M) → L = M
  | [], [], _, _, _ => rfl
  | [], b :: M, _, _, h => by have := (h b).2 List.mem_cons_self; cases this
  | a :: L, [], _, _, h => by have := (h a).1 List.mem_cons_self; cases this
  | a :: L, b :: M, h1, h2, h => by
    rw [List.pairwise_cons] at h1 h2
    have hab : a = b := by
      rcases List.mem_cons.1 ((h a).1 List.mem_cons_self) with e | e
      · exact e
      · rcases List.mem_cons.1 ((h b).2 List.mem_cons_self) with f | f
        · exact f.symm
        · exact absurd ((h1.1 b f).trans (h2.1 a e)) Lt.irrefl
    subst hab
    congr 1
    refine one_list h1.2 h2.2 fun r => ⟨fun hr => ?_, fun hr => ?_⟩
    · rcases List.mem_cons.1 ((h r).1 (List.mem_cons_of_mem _ hr)) with rfl | e
      · exact absurd (h1.1 _ hr) Lt.irrefl
      · exact e
    · rcases List.mem_cons.1 ((h r).2 (List.mem_cons_of_mem _ hr)) with rfl | e
      · exact absurd (h2.1 _ hr) Lt.irrefl
      · exact e

theorem sorted_sortP (ps : List (Int × Int)) : (sortP ps).Pairwise Lt := by
  have h1 : (sortP ps).Pairwise (fun x y => (!(ltOf cmpP) y x) = true) := by
    unfold sortP
    refine List.pairwise_mergeSort (fun a b c h k => ?_) (fun a b => ?_) _
    · rw [ltP] at *
      simp only [Bool.not_eq_true', decide_eq_false_iff_not] at *
      omega
    · rw [ltP, ltP]
      simp only [Bool.or_eq_true, Bool.not_eq_true', decide_eq_false_iff_not]
      omega
  have h2 : (sortP ps).Nodup := by
    unfold sortP
    exact (List.mergeSort_perm _ _).nodup_iff.2 (nodup_once ps)
  refine (h1.and h2).imp ?_
  rintro x y ⟨h, hne⟩
  rw [ltP] at h
  simp only [Bool.not_eq_true', decide_eq_false_iff_not] at h
  exact Lt.total h (fun e => hne e.symm)

theorem ord_is_sort (ps : List (Int × Int)) : ordP ps = sortP ps := by
  refine one_list (ordP_fold (0, 0) ps [] List.Pairwise.nil).1 (sorted_sortP ps) fun r => ?_
  rw [mem_sortP]
  have := (ordP_fold r ps [] List.Pairwise.nil).2
  simpa [ordP] using this
theorem len_ordP (ps : List (Int × Int)) : (ordP ps).length ≤ ps.length := by
  rw [ord_is_sort, len_sortP]
  exact len_once ps

theorem l2Ahead_any (p q : Int × Int) (w : World) : Calls Try.prog 76 #[.agg #[.int .i64 p.1, .int .i64 p.2], .agg #[.int .i64 q.1, .int .i64 q.2]] w fun e w' => e = .returned (.bool (decide (Lt p q))) ∧ New w w' := by
  obtain ⟨a, b⟩ := p
  obtain ⟨c, d⟩ := q
  by_cases h : a = c
  · have hf : Hid (decide (Lt (a, b) (c, d)) = decide (b < d)) := by
      unfold Hid
      rw [decide_eq_decide]
      unfold Lt
      simp only
      omega
    have hx : (a != c) = false := by simp [h]
    rw [hf.out]
    go_enter Try.func76, Try.ntmps76
    go_wp2
    go_ret
    exact ⟨rfl, ((New.refl _).alloc _).alloc _⟩
  · have hf : Hid (decide (Lt (a, b) (c, d)) = decide (a < c)) := by
      unfold Hid
      rw [decide_eq_decide]
      unfold Lt
      simp only
      omega
    have hx : (a != c) = true := by simp [h]
    rw [hf.out]
    go_enter Try.func76, Try.ntmps76
    go_wp2
    go_ret
    exact ⟨rfl, ((New.refl _).alloc _).alloc _⟩

end Go.Proofs.Ytgjdjafldogecaa
