/- What is proved here: the program's comparing is an order; the prefixes of a list, each once; how often each is there. Plain words, no run of the program. -/
import Derived.Test.YtefbeaoinikbgaaCmpLib
namespace Go.Proofs.Ytefbeaoinikbgaa
open Go.RowKit Go.Sort Go.Shelf

theorem cmp_lt (p q : Int × Int) : cmpP p q < 0 ↔ (p.1 < q.1 ∨ (p.1 = q.1 ∧ p.2 < q.2)) := by
  unfold cmpP cmp3
  split <;> split <;> (try split) <;> omega
theorem ltP (p q : Int × Int) : ltOf cmpP p q = decide (p.1 < q.1 ∨ (p.1 = q.1 ∧ p.2 < q.2)) := by
  unfold ltOf
  rw [decide_eq_decide]
  exact cmp_lt p q
theorem swoP : SWO (ltOf cmpP) where
  irrefl x := by rw [ltP]; simp
  trans x y z h1 h2 := by rw [ltP] at *; simp only [decide_eq_true_eq] at *; omega
  ntrans x y z h1 h2 := by rw [ltP] at *; simp only [decide_eq_false_iff_not] at *; omega
theorem totP : ∀ x y : Int × Int, ltOf cmpP x y = false → ltOf cmpP y x = false → x = y := by
  intro x y h1 h2
  rw [ltP] at *
  simp only [decide_eq_false_iff_not] at *
  obtain ⟨a, b⟩ := x
  obtain ⟨c, d⟩ := y
  simp only [Prod.mk.injEq] at *
  omega

/-- One more, if it is not there. -/
def add1 (acc : List (Int × Int)) (p : Int × Int) : List (Int × Int) := if p ∈ acc then acc else acc ++ [p]
/-- Each once, in the order in which they first stand. -/
def once (ps : List (Int × Int)) : List (Int × Int) := ps.foldl add1 []
theorem once_snoc (ps : List (Int × Int)) (p : Int × Int) : once (ps ++ [p]) = add1 (once ps) p := by simp [once]
theorem mem_add1 {acc : List (Int × Int)} {p q : Int × Int} : q ∈ add1 acc p ↔ q ∈ acc ∨ q = p := by
  unfold add1
  split
  · rename_i h
    constructor
    · exact .inl
    · rintro (h' | rfl)
      · exact h'
      · exact h
  · simp
theorem mem_fold (q : Int × Int) : ∀ (ps acc : List (Int × Int)), q ∈ ps.foldl add1 acc ↔ q ∈ acc ∨ q ∈ ps
  | [], acc => by simp
  | p :: ps, acc => by
    rw [List.foldl_cons, mem_fold q ps, mem_add1, List.mem_cons]
    constructor
    · rintro ((h | h) | h)
      · exact .inl h
      · exact .inr (.inl h)
      · exact .inr (.inr h)
    · rintro (h | h | h)
      · exact .inl (.inl h)
      · exact .inl (.inr h)
      · exact .inr h
theorem mem_once {ps : List (Int × Int)} {q : Int × Int} : q ∈ once ps ↔ q ∈ ps := by
  unfold once
  rw [mem_fold]
  simp
theorem nodup_fold : ∀ (ps acc : List (Int × Int)), acc.Nodup → (ps.foldl add1 acc).Nodup
  | [], acc, h => h
  | p :: ps, acc, h => by
    rw [List.foldl_cons]
    apply nodup_fold
    unfold add1
    split
    · exact h
    · rename_i hn
      rw [List.nodup_append]
      exact ⟨h, by simp, fun a ha b hb e => by simp at hb; subst hb; subst e; exact hn ha⟩
theorem nodup_once (ps : List (Int × Int)) : (once ps).Nodup := nodup_fold ps [] (by simp)
theorem len_fold : ∀ (ps acc : List (Int × Int)), (ps.foldl add1 acc).length ≤ acc.length + ps.length
  | [], acc => by simp
  | p :: ps, acc => by
    have := len_fold ps (add1 acc p)
    have h2 : (add1 acc p).length ≤ acc.length + 1 := by unfold add1; split <;> simp
    rw [List.foldl_cons, List.length_cons]
    omega
theorem len_once (ps : List (Int × Int)) : (once ps).length ≤ ps.length := by have := len_fold ps []; simpa [once] using this

/-- f tells how often each is there. -/
def CN (ps : List (Int × Int)) (f : Int → Int → Option Int) : Prop := ∀ a l, (f a l).getD 0 = (ps.count (a, l) : Int)
theorem CN.start : CN [] (fun _ _ => none) := fun a l => by simp
theorem CN.next {ps : List (Int × Int)} {f : Int → Int → Option Int} (h : CN ps f) (x y : Int) : CN (ps ++ [(x, y)]) (upd f x y ((f x y).getD 0 + 1)) := by
  intro a l
  rw [List.count_append]
  by_cases e : a = x ∧ l = y
  · obtain ⟨rfl, rfl⟩ := e
    simp [upd, h a l]
  · have e' : ((x, y) == (a, l)) = false := by
      rw [beq_eq_false_iff_ne]
      intro h'
      simp only [Prod.mk.injEq] at h'
      exact e ⟨h'.1.symm, h'.2.symm⟩
    simp [upd, e, h a l, List.count_cons, e']

/-- What the program tells: each once, in order. -/
def sortP (ps : List (Int × Int)) : List (Int × Int) := (once ps).mergeSort fun x y => !(ltOf cmpP) y x
theorem len_sortP (ps : List (Int × Int)) : (sortP ps).length = (once ps).length := by unfold sortP; rw [List.length_mergeSort]
theorem mem_sortP {ps : List (Int × Int)} {q : Int × Int} : q ∈ sortP ps ↔ q ∈ ps := by unfold sortP; rw [List.mem_mergeSort, mem_once]

end Go.Proofs.Ytefbeaoinikbgaa
