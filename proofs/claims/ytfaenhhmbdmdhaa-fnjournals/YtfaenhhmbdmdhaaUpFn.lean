/- What is proved here: what the judging of an update answers, in the program and in its model, for every lists of at most 1048576 elements. -/
import Derived.Test.YtfaenhhmbdmdhaaAtFn
namespace Go.Proofs.Ytfaenhhmbdmdhaa
open Go.RowKit Go.Sort
set_option linter.unusedVariables false

/-- The fault of an update. -/
def uf (gs : List (Int × Int)) (has : Bool) (o : Int) (xs : List Int) (nx md lc : Int) (rs : List (Int × Int)) : Int :=
  if 8 < gs.length ∨ 8 < rs.length then 2 else if lf gs ≠ 0 then lf gs else if lf rs ≠ 0 then lf rs
  else if has ≠ decide (0 < rs.length) then 1 else if has then af o xs nx md lc else if ZaP o xs nx md lc then 0 else 1

theorem lfc_three : ∀ ps : List (Int × Int), lfc ps = 0 ∨ lfc ps = 1 ∨ lfc ps = 3
  | [] => .inl rfl
  | p :: r => by
    unfold lfc
    split
    · exact lfc_three r
    · rcases pf_three p.1 p.2 with h | h | h
      · contradiction
      · exact .inr (.inl h)
      · exact .inr (.inr h)
theorem lf_four (ps : List (Int × Int)) : lf ps = 0 ∨ lf ps = 1 ∨ lf ps = 2 ∨ lf ps = 3 := by
  unfold lf
  split
  · exact .inr (.inr (.inl rfl))
  · rcases lfc_three ps with h | h | h
    · exact .inl h
    · exact .inr (.inl h)
    · exact .inr (.inr (.inr h))

theorem uf_many {gs rs : List (Int × Int)} {has : Bool} {o nx md lc : Int} {xs : List Int} (h : 8 < gs.length ∨ 8 < rs.length) : uf gs has o xs nx md lc rs = 2 := if_pos h
theorem uf_gone {gs rs : List (Int × Int)} {has : Bool} {o nx md lc : Int} {xs : List Int} (h : ¬ (8 < gs.length ∨ 8 < rs.length)) (h1 : lf gs ≠ 0) : uf gs has o xs nx md lc rs = lf gs := by
  unfold uf; rw [if_neg h, if_pos h1]
theorem uf_reach {gs rs : List (Int × Int)} {has : Bool} {o nx md lc : Int} {xs : List Int} (h : ¬ (8 < gs.length ∨ 8 < rs.length)) (h1 : lf gs = 0) (h2 : lf rs ≠ 0) : uf gs has o xs nx md lc rs = lf rs := by
  unfold uf; rw [if_neg h, if_neg (by simpa using h1), if_pos h2]
theorem uf_rest {gs rs : List (Int × Int)} {has : Bool} {o nx md lc : Int} {xs : List Int} (h : ¬ (8 < gs.length ∨ 8 < rs.length)) (h1 : lf gs = 0) (h2 : lf rs = 0) : uf gs has o xs nx md lc rs = if has ≠ decide (0 < rs.length) then 1 else if has then af o xs nx md lc else if ZaP o xs nx md lc then 0 else 1 := by
  unfold uf; rw [if_neg h, if_neg (by simpa using h1), if_neg (by simpa using h2)]

/-- The cells of an update. -/
def upC (ga : Option Addr) (gn gc : Nat) (has : Bool) (o : Int) (a : Option Addr) (n c : Nat) (nx md lc : Int) (ra : Option Addr) (rn rc : Nat) : Array Value :=
  #[.slice ga gn gc, .bool has, .int .i64 o, .slice a n c, .int .i64 nx, .int .i64 md, .int .i64 lc, .slice ra rn rc]

theorem SaZ {o nx md lc : Int} {xs : List Int} : decide (SaP o xs nx md lc 0 [] 0 0 0) = decide (ZaP o xs nx md lc) := by
  unfold SaP ZaP
  simp only [List.length_eq_zero_iff]
  congr 1
  apply propext
  constructor
  · rintro ⟨h1, h2, h3, h4, h5⟩; exact ⟨h1, h5, h2, h3, h4⟩
  · rintro ⟨h1, h5, h2, h3, h4⟩; exact ⟨h1, h2, h3, h4, h5⟩

end Go.Proofs.Ytfaenhhmbdmdhaa
