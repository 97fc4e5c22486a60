/- What is proved here: what the two ways of cutting a text at a byte answer, for every text of at most 1048576 bytes. -/
import Derived.Test.YtkdnccjbhkmheaaDoorStNum
import Derived.Test.YtkdnccjbhkmheaaDoorShelf
import Derived.Maps.AppendAt
namespace Go.Proofs.YtkdnccjbhkmheaaDoor
open Go.RowKit Go.Sort

/-- What is ahead of the first c, and what is behind it. -/
def bef (c : UInt8) : List UInt8 → List UInt8
  | [] => []
  | b :: r => if b = c then [] else b :: bef c r
def aft (c : UInt8) : List UInt8 → List UInt8
  | [] => []
  | b :: r => if b = c then r else aft c r
theorem bef_no (c : UInt8) : ∀ l : List UInt8, c ∉ bef c l
  | [] => by simp [bef]
  | b :: r => by
    have := bef_no c r
    unfold bef
    split
    · simp
    · rename_i h
      simp only [List.mem_cons, not_or]
      exact ⟨fun e => h e.symm, this⟩
theorem cut_eq {c : UInt8} : ∀ {l : List UInt8}, c ∈ l → l = bef c l ++ c :: aft c l
  | [], h => by simp at h
  | b :: r, h => by
    by_cases hb : b = c
    · subst hb; simp [bef, aft]
    · have hr : c ∈ r := by rcases List.mem_cons.1 h with h' | h'; exact absurd h'.symm hb; exact h'
      have := cut_eq hr
      simp only [bef, aft, if_neg hb, List.cons_append]
      rw [← this]
theorem bef_not {c : UInt8} : ∀ {l : List UInt8}, c ∉ l → bef c l = l
  | [], _ => rfl
  | b :: r, h => by
    simp only [List.mem_cons, not_or] at h
    simp only [bef, if_neg (fun e : b = c => h.1 e.symm), bef_not h.2]
theorem aft_not {c : UInt8} : ∀ {l : List UInt8}, c ∉ l → aft c l = []
  | [], _ => rfl
  | b :: r, h => by
    simp only [List.mem_cons, not_or] at h
    simp only [aft, if_neg (fun e : b = c => h.1 e.symm), aft_not h.2]

theorem index_eq (c : UInt8) : ∀ l : List UInt8, Lib.indexByte l c = if c ∈ l then ((bef c l).length : Int) else -1
  | [] => rfl
  | b :: r => by
    unfold Lib.indexByte
    by_cases hb : b = c
    · subst hb; simp [bef]
    · have hb' : (b == c) = false := by simp [hb]
      rw [hb', index_eq c r]
      by_cases hr : c ∈ r
      · have : ¬ (((bef c r).length : Int) == -1) = true := by simp
        rw [if_pos hr, if_pos (List.mem_cons_of_mem b hr), if_neg (by simp), if_neg this]
        simp [bef, hb]
      · have h2 : c ∉ b :: r := by simp only [List.mem_cons, not_or]; exact ⟨fun e => hb e.symm, hr⟩
        rw [if_neg hr, if_neg h2]
        simp

/-- The pieces of a text between the bytes c. -/
def pcs (c : UInt8) : List UInt8 → List (List UInt8)
  | [] => [[]]
  | b :: r => if b = c then [] :: pcs c r else match pcs c r with | [] => [[b]] | h :: t => (b :: h) :: t
theorem pcs_no {c : UInt8} : ∀ {l : List UInt8}, c ∉ l → pcs c l = [l]
  | [], _ => rfl
  | b :: r, h => by
    simp only [List.mem_cons, not_or] at h
    unfold pcs
    rw [if_neg (fun e => h.1 e.symm), pcs_no h.2]
theorem pcs_hit {c : UInt8} : ∀ {a : List UInt8} (r : List UInt8), c ∉ a → pcs c (a ++ c :: r) = a :: pcs c r
  | [], r, _ => by simp [pcs]
  | b :: a, r, h => by
    simp only [List.mem_cons, not_or] at h
    rw [List.cons_append, pcs, if_neg (fun e => h.1 e.symm), pcs_hit r h.2]
theorem pcs_pos (c : UInt8) : ∀ l : List UInt8, 1 ≤ (pcs c l).length
  | [] => by simp [pcs]
  | b :: r => by
    unfold pcs
    split
    · simp
    · split <;> simp
theorem pcs_cut {c : UInt8} {l : List UInt8} (h : c ∈ l) : pcs c l = bef c l :: pcs c (aft c l) := by
  conv => lhs; rw [cut_eq h]
  exact pcs_hit _ (bef_no c l)
theorem pcs_len {c : UInt8} : ∀ l : List UInt8, (pcs c l).length ≤ l.length + 1
  | [] => by simp [pcs]
  | b :: r => by
    have := pcs_len (c := c) r
    unfold pcs
    split
    · simp; omega
    · split <;> rename_i h <;> rw [h] at this <;> simp at this ⊢ <;> omega

theorem idx_one (s : ByteArray) (c : UInt8) (w : World) : Calls Tryd.prog 25 #[.string s, .string ⟨#[c]⟩] w fun e w' => e = .returned (.int .i64 (Lib.indexByte s.data.toList c)) ∧ w' = w := Any.stringslite_Index_one Tryd.lays219 s c w

end Go.Proofs.YtkdnccjbhkmheaaDoor
