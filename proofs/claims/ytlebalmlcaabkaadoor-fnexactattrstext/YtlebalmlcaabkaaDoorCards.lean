/-
  DERIVED. GIVEN WITH THE SEED: THE CARDS: each row of YtlebalmlcaabkaaDoorRows.lean that lists a variable, with what it lists TIED to the program's text (the seventh form; the later family's looks); each row that meets fmt, with fmt's text TOLD by the authors' own Lean function (tested against real Go, not proved from fmt's source: count such statements apart). THE CARD IS WHAT COUNTS. Prove the row's statement (the work); the ties are given (YtlebalmlcaabkaaDoorTie.lean); close each card by the builder's one call (the guide's Derived/Test/ToyasCard.lean, 'card_holds'). Laid BY PROGRAM, IN A SANDBOX (cutbox-door.mjs). By AI agents, Wed Nov 11 2026. No macro, syntax, notation, axiom, sorry.
-/
import Derived.Test.YtlebalmlcaabkaaDoorRows
import GoSem.ClaimSeven
namespace Go.Proofs.YtlebalmlcaabkaaDoor
namespace Rows

/-- THE TIED CARD OF 'laws.FnExactAttrsText'. -/
def fnExactAttrsTextCard : Claim7 := { stood := { row := fnExactAttrsTextRow, standIns := [], harness := (true, "447444e5ba2a5e83f6622091f147ebf7292f3f580dd74e59c2832d949d65daa7"), looks := false }, kinds := [], alts := [], laidByText := true, laidKinds := [.data, .data, .data], laidTests := true, laidLooks := .later }
def FnExactAttrsTextCardSaid : Prop := Claim7.holds Tryd.pinned (.plain (OpenSpec.ofChange fnExactAttrsTextSpec)) fnExactAttrsTextCard

/-- THE SECOND FORM's CARD OF 'laws.FnExactAttrsText'. -/
def fnExactAttrsTextUptoCard : Claim7 := { stood := { row := fnExactAttrsTextUptoRow, standIns := [], harness := (true, "447444e5ba2a5e83f6622091f147ebf7292f3f580dd74e59c2832d949d65daa7"), looks := false }, kinds := [], alts := [], laidByText := true, laidKinds := [.data, .data, .data], laidTests := true, laidLooks := .later }
def FnExactAttrsTextUptoCardSaid : Prop := Claim7.holds Tryd.pinned (.plain (OpenSpec.upto fnExactAttrsTextSpec)) fnExactAttrsTextUptoCard
end Rows
end Go.Proofs.YtlebalmlcaabkaaDoor
