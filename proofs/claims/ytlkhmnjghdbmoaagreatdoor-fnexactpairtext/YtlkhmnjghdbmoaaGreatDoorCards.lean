/-
  DERIVED. GIVEN WITH THE SEED: THE CARDS: each row of YtlkhmnjghdbmoaaGreatDoorRows.lean that lists a variable, with what it lists TIED to the program's text (the seventh form; the later family's looks); each row that meets fmt, with fmt's text TOLD by the authors' own Lean function (tested against real Go, not proved from fmt's source: count such statements apart). THE CARD IS WHAT COUNTS. Prove the row's statement (the work); the ties are given (YtlkhmnjghdbmoaaGreatDoorTie.lean); close each card by the builder's one call (the guide's Derived/Test/ToyasCard.lean, 'card_holds'). Laid BY PROGRAM, IN A SANDBOX (cutbox-door.mjs). By AI agents, Wed Nov 11 2026. No macro, syntax, notation, axiom, sorry.
-/
import Derived.Test.YtlkhmnjghdbmoaaGreatDoorRows
import GoSem.ClaimSeven
namespace Go.Proofs.YtlkhmnjghdbmoaaGreatDoor
namespace Rows

/-- THE TIED CARD OF 'laws.FnExactPairText'. -/
def fnExactPairTextCard : Claim7 := { stood := { row := fnExactPairTextRow, standIns := [], harness := (true, "4677c9b36d5885a3168181fc1e251d847c814c3022c03a8d564044dfa5676fa8"), looks := false }, kinds := [], alts := [], laidByText := true, laidKinds := [.data, .data, .data], laidTests := true, laidLooks := .later }
def FnExactPairTextCardSaid : Prop := Claim7.holds Tryz.pinned (.plain (OpenSpec.ofChange fnExactPairTextSpec)) fnExactPairTextCard

/-- THE SECOND FORM's CARD OF 'laws.FnExactPairText'. -/
def fnExactPairTextUptoCard : Claim7 := { stood := { row := fnExactPairTextUptoRow, standIns := [], harness := (true, "4677c9b36d5885a3168181fc1e251d847c814c3022c03a8d564044dfa5676fa8"), looks := false }, kinds := [], alts := [], laidByText := true, laidKinds := [.data, .data, .data], laidTests := true, laidLooks := .later }
def FnExactPairTextUptoCardSaid : Prop := Claim7.holds Tryz.pinned (.plain (OpenSpec.upto fnExactPairTextSpec)) fnExactPairTextUptoCard
end Rows
end Go.Proofs.YtlkhmnjghdbmoaaGreatDoor
