/- What is proved here: what the two readings of a number in a text answer, for every text. No condition. -/
import Derived.Test.YtkdnccjbhkmheaaDoorPsFn
import Derived.Lib.Strings
namespace Go.Proofs.YtkdnccjbhkmheaaDoor
open Go.RowKit Go.Sort

def okD (b : UInt8) : Bool := decide (48 ≤ b.toNat) && decide (b.toNat ≤ 57)
def dgs (l : List UInt8) : Int := l.foldl (fun n b => n * 10 + ((b.toNat : Int) - 48)) 0
theorem dgs_snoc (l : List UInt8) (b : UInt8) : dgs (l ++ [b]) = dgs l * 10 + ((b.toNat : Int) - 48) := by simp [dgs]
/-- A number of at most three digits, no 0 ahead. -/
def numD (l : List UInt8) : Option Int :=
  if l.length = 0 ∨ 3 < l.length ∨ (1 < l.length ∧ l[0]? = some 48) ∨ l.all okD = false then none else some (dgs l)
theorem dgs_bd : ∀ (l : List UInt8), l.all okD = true → l.length ≤ 3 → 0 ≤ dgs l ∧ dgs l ≤ 999
  | [], _, _ => by simp [dgs]
  | [a], h, _ => by simp [okD, dgs] at *; omega
  | [a, b], h, _ => by simp [okD, dgs] at *; omega
  | [a, b, c], h, _ => by simp [okD, dgs] at *; omega
  | a :: b :: c :: d :: r, _, h => by simp at h
theorem numD_bd {l : List UInt8} {v : Int} (h : numD l = some v) : 0 ≤ v ∧ v ≤ 999 := by
  unfold numD at h
  split at h
  · cases h
  · rename_i hc
    obtain rfl := Option.some.inj h
    refine dgs_bd l ?_ (by omega)
    cases ha : l.all okD with
    | true => rfl
    | false => exact absurd (.inr (.inr (.inr ha))) hc

theorem byte_at {s : ByteArray} {k : Nat} {b : UInt8} (h : s.data.toList[k]? = some b) : ∀ hk : k < s.size, s[k]'hk = b := by
  intro hk
  have := (List.getElem?_eq_some_iff.1 h).2
  rw [← this]
  simp [ByteArray.getElem_eq_getElem_data]

theorem byte_some (s : ByteArray) (k : Nat) (hk : k < s.size) : ∃ b, s.data.toList[k]? = some b := by
  have hk' : k < s.data.toList.length := by rw [← Lib.size_eq]; exact hk
  exact ⟨_, List.getElem?_eq_getElem hk'⟩

theorem all_take {l : List UInt8} {k : Nat} {b : UInt8} (hb : l[k]? = some b) (h : (l.take k).all okD = true) (hk : okD b = true) : (l.take (k + 1)).all okD = true := by
  obtain ⟨hlt, rfl⟩ := List.getElem?_eq_some_iff.1 hb
  rw [List.take_succ_eq_append_getElem hlt]
  simp only [List.all_append, h, List.all_cons, hk, List.all_nil, Bool.and_self]
theorem dgs_take {l : List UInt8} {k : Nat} {b : UInt8} (hb : l[k]? = some b) : dgs (l.take (k + 1)) = dgs (l.take k) * 10 + ((b.toNat : Int) - 48) := by
  obtain ⟨hlt, rfl⟩ := List.getElem?_eq_some_iff.1 hb
  rw [List.take_succ_eq_append_getElem hlt, dgs_snoc]
theorem all_false {l : List UInt8} {k : Nat} {b : UInt8} (hb : l[k]? = some b) (hk : okD b = false) : l.all okD = false := by
  rw [List.all_eq_false]
  exact ⟨b, List.mem_of_getElem? hb, by simp [hk]⟩

theorem ret_pair {a b : Int} {x y : Bool} (h : a = b) (h' : x = y) : Ending.returned (.tuple #[.int .i64 a, .bool x]) = .returned (.tuple #[.int .i64 b, .bool y]) := by rw [h, h']

theorem dgs_le : ∀ (l : List UInt8) (a : Int), 0 ≤ a → l.all okD = true → 0 ≤ l.foldl (fun n b => n * 10 + ((b.toNat : Int) - 48)) a ∧ l.foldl (fun n b => n * 10 + ((b.toNat : Int) - 48)) a < (a + 1) * 10 ^ l.length
  | [], a, h, _ => by simp; omega
  | b :: r, a, h, ha => by
    simp only [List.all_cons, Bool.and_eq_true, okD, decide_eq_true_eq] at ha
    have h1 := dgs_le r (a * 10 + ((b.toNat : Int) - 48)) (by omega) ha.2
    simp only [List.foldl_cons, List.length_cons]
    refine ⟨h1.1, Int.lt_of_lt_of_le h1.2 ?_⟩
    rw [Int.pow_succ, Int.mul_comm (10 ^ r.length) 10, ← Int.mul_assoc]
    refine Int.mul_le_mul_of_nonneg_right (by omega) ?_
    exact Int.le_of_lt (Int.pow_pos (by omega))
theorem dgs_bd5 {l : List UInt8} (h : l.all okD = true) (hl : l.length ≤ 5) : 0 ≤ dgs l ∧ dgs l ≤ 99999 := by
  have h1 := dgs_le l 0 (by omega) h
  refine ⟨h1.1, ?_⟩
  have h2 : ((0 : Int) + 1) * 10 ^ l.length ≤ 100000 := by
    rcases Nat.lt_or_ge l.length 1 with h | h
    · have : l.length = 0 := by omega
      rw [this]; decide
    · rcases (by omega : l.length = 1 ∨ l.length = 2 ∨ l.length = 3 ∨ l.length = 4 ∨ l.length = 5) with h | h | h | h | h <;> rw [h] <;> decide
  have h3 := h1.2
  unfold dgs
  omega
/-- A number of at most m digits. -/
def digM (m : Nat) (l : List UInt8) : Option Int := if l.length = 0 ∨ m < l.length ∨ l.all okD = false then none else some (dgs l)
theorem numD_dig {l : List UInt8} (h : ¬ (1 < l.length ∧ l[0]? = some 48)) : numD l = digM 3 l := by
  unfold numD digM
  by_cases h1 : l.length = 0 ∨ 3 < l.length ∨ l.all okD = false
  · rw [if_pos h1, if_pos]
    rcases h1 with h1 | h1 | h1
    · exact .inl h1
    · exact .inr (.inl h1)
    · exact .inr (.inr (.inr h1))
  · rw [if_neg h1, if_neg]
    rintro (h2 | h2 | h2 | h2)
    · exact h1 (.inl h2)
    · exact h1 (.inr (.inl h2))
    · exact h h2
    · exact h1 (.inr (.inr h2))
theorem digM_bd {m : Nat} {l : List UInt8} {v : Int} (hm : m ≤ 5) (h : digM m l = some v) : 0 ≤ v ∧ v ≤ 99999 := by
  unfold digM at h
  split at h
  · cases h
  · rename_i hc
    obtain rfl := Option.some.inj h
    refine dgs_bd5 ?_ (by omega)
    cases ha : l.all okD with
    | true => rfl
    | false => exact absurd (.inr (.inr ha)) hc

end Go.Proofs.YtkdnccjbhkmheaaDoor
