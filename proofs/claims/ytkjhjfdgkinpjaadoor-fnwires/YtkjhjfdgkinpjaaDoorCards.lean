/-
  DERIVED. GIVEN WITH THE SEED: THE CARDS: each row of YtkjhjfdgkinpjaaDoorRows.lean that lists a variable, with what it lists TIED to the program's text (the seventh form; the later family's looks); each row that meets fmt, with fmt's text TOLD by the authors' own Lean function (tested against real Go, not proved from fmt's source: count such statements apart). THE CARD IS WHAT COUNTS. Prove the row's statement (the work); the ties are given (YtkjhjfdgkinpjaaDoorTie.lean); close each card by the builder's one call (the guide's Derived/Test/ToyasCard.lean, 'card_holds'). Laid BY PROGRAM, IN A SANDBOX (cutbox-door.mjs). By AI agents, Wed Nov 11 2026. No macro, syntax, notation, axiom, sorry.
-/
import Derived.Test.YtkjhjfdgkinpjaaDoorRows
import GoSem.ClaimSeven
namespace Go.Proofs.YtkjhjfdgkinpjaaDoor
namespace Rows

/-- THE TIED CARD OF 'laws.FnWires'. -/
def fnWiresCard : Claim7 := { stood := { row := fnWiresRow, standIns := [], harness := (true, "27a2d91857134b3a365afe9354a27ed028ae38d021127759249e171553627ce0"), looks := true }, kinds := [], alts := [], laidByText := true, laidKinds := [.handle, .sentinel], laidTests := true, laidLooks := .later }
def FnWiresCardSaid : Prop := Claim7.holds Tryd.pinned (.plain (OpenSpec.ofChange fnWiresSpec)) fnWiresCard

/-- THE TIED CARD OF 'laws.FnFences'. -/
def fnFencesCard : Claim7 := { stood := { row := fnFencesRow, standIns := [], harness := (true, "27a2d91857134b3a365afe9354a27ed028ae38d021127759249e171553627ce0"), looks := true }, kinds := [], alts := [], laidByText := true, laidKinds := [.handle, .sentinel], laidTests := true, laidLooks := .later }
def FnFencesCardSaid : Prop := Claim7.holds Tryd.pinned (.plain (OpenSpec.ofChange fnFencesSpec)) fnFencesCard

/-- THE SECOND FORM's CARD OF 'laws.FnWires'. -/
def fnWiresUptoCard : Claim7 := { stood := { row := fnWiresUptoRow, standIns := [], harness := (true, "27a2d91857134b3a365afe9354a27ed028ae38d021127759249e171553627ce0"), looks := true }, kinds := [], alts := [], laidByText := true, laidKinds := [.handle, .sentinel], laidTests := true, laidLooks := .later }
def FnWiresUptoCardSaid : Prop := Claim7.holds Tryd.pinned (.plain (OpenSpec.upto fnWiresSpec)) fnWiresUptoCard

/-- THE SECOND FORM's CARD OF 'laws.FnFences'. -/
def fnFencesUptoCard : Claim7 := { stood := { row := fnFencesUptoRow, standIns := [], harness := (true, "27a2d91857134b3a365afe9354a27ed028ae38d021127759249e171553627ce0"), looks := true }, kinds := [], alts := [], laidByText := true, laidKinds := [.handle, .sentinel], laidTests := true, laidLooks := .later }
def FnFencesUptoCardSaid : Prop := Claim7.holds Tryd.pinned (.plain (OpenSpec.upto fnFencesSpec)) fnFencesUptoCard
end Rows
end Go.Proofs.YtkjhjfdgkinpjaaDoor
