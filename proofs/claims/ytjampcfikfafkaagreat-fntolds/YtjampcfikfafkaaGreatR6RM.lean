/- What is proved here: what RuleMatches answers, in the program and in the model, for every path of at most 1048576 numbers. -/
import Derived.Test.YtjampcfikfafkaaGreatR6Ma
namespace Go.Proofs.YtjampcfikfafkaaGreat
open Go.RowKit Go.Sort
set_option linter.unusedVariables false

/-- No fault, and the rule matches. -/
def rm (a l ls ms s : Int) (d : Bool) (lc pp p q o : Int) (xs : List Int) (nx md lo : Int) : Bool := decide (rf a l ls ms s d lc pp = 0) && decide (pf p q = 0) && decide (af o xs nx md lo = 0) && mt a l ls ms s p q xs

theorem rf_three (a l ls ms s : Int) (d : Bool) (lc pp : Int) : rf a l ls ms s d lc pp = 0 ∨ rf a l ls ms s d lc pp = 1 ∨ rf a l ls ms s d lc pp = 3 := by
  unfold rf
  split
  · split
    · split
      · exact .inr (.inl rfl)
      · exact .inl rfl
    · exact .inr (.inr rfl)
  · exact pf_three a l

theorem afc_two : ∀ xs : List Int, afc xs = 0 ∨ afc xs = 3
  | [] => .inl rfl
  | x :: r => by
    unfold afc
    split
    · exact afc_two r
    · exact .inr rfl

theorem af_three (o : Int) (xs : List Int) (nx md lo : Int) : af o xs nx md lo = 0 ∨ af o xs nx md lo = 2 ∨ af o xs nx md lo = 3 := by
  unfold af
  split
  · split
    · exact .inr (.inl rfl)
    · rcases afc_two xs with h | h
      · exact .inl h
      · exact .inr (.inr h)
  · exact .inr (.inr rfl)

theorem New.drew_mark6 {a b : World} : New a.drew b ↔ New a b := ⟨fun h => ⟨h.os, h.tape, h.output, h.size, h.block⟩, fun h => ⟨h.os, h.tape, h.output, h.size, h.block⟩⟩

theorem implAF_is (o nx md lo : Int) (x : Option Addr) (n c : Nat) (xs : List Int) (k : Int) (w : World) (h : NsAt w x xs) (hn : xs.length = n) (hm : n ≤ 1048576) (e : af o xs nx md lo = k) : Calls Tryz.prog 44 #[.agg #[.int .i64 o, .slice x n c, .int .i64 nx, .int .i64 md, .int .i64 lo]] w fun e w' => e = .returned (.int .i64 k) ∧ New w w' := e ▸ implAF o nx md lo x n c xs w h hn hm

theorem specAF_is (o nx md lo : Int) (x : Option Addr) (n c : Nat) (xs : List Int) (k : Int) (w : World) (h : NsAt w x xs) (hn : xs.length = n) (hm : n ≤ 1048576) (e : af o xs nx md lo = k) : Calls Tryz.prog 102 #[.agg #[.int .i64 o, .slice x n c, .int .i64 nx, .int .i64 md, .int .i64 lo]] w fun e w' => e = .returned (.int .i64 k) ∧ New w w' := e ▸ specAF o nx md lo x n c xs w h hn hm

end Go.Proofs.YtjampcfikfafkaaGreat
