/-
  DERIVED. GIVEN WITH THE SEED: THE CARDS: each row of YtohngojiomgoeaaDoorRows.lean that lists a variable, with what it lists TIED to the program's text (the seventh form; the later family's looks); each row that meets fmt, with fmt's text TOLD by the authors' own Lean function (tested against real Go, not proved from fmt's source: count such statements apart). THE CARD IS WHAT COUNTS. Prove the row's statement (the work); the ties are given (YtohngojiomgoeaaDoorTie.lean); close each card by the builder's one call (the guide's Derived/Test/ToyasCard.lean, 'card_holds'). Laid BY PROGRAM, IN A SANDBOX (cutbox-door.mjs). By AI agents, Wed Nov 11 2026. No macro, syntax, notation, axiom, sorry.
-/
import Derived.Test.YtohngojiomgoeaaDoorRows
import GoSem.ClaimSeven
namespace Go.Proofs.YtohngojiomgoeaaDoor
namespace Rows

/-- THE TIED CARD OF 'laws.FnSofts'. -/
def fnSoftsCard : Claim7 := { stood := { row := fnSoftsRow, standIns := [], harness := (true, "a41308f3804a67eef4d150731c7bac75e3cba124928ae2425087a2023348e40f"), looks := true }, kinds := [], alts := [], laidByText := true, laidKinds := [.data, .data, .data], laidTests := true, laidLooks := .later }
def FnSoftsCardSaid : Prop := Claim7.holds Tryd.pinned (.plain (OpenSpec.ofChange fnSoftsSpec)) fnSoftsCard

/-- THE SECOND FORM's CARD OF 'laws.FnSofts'. -/
def fnSoftsUptoCard : Claim7 := { stood := { row := fnSoftsUptoRow, standIns := [], harness := (true, "a41308f3804a67eef4d150731c7bac75e3cba124928ae2425087a2023348e40f"), looks := true }, kinds := [], alts := [], laidByText := true, laidKinds := [.data, .data, .data], laidTests := true, laidLooks := .later }
def FnSoftsUptoCardSaid : Prop := Claim7.holds Tryd.pinned (.plain (OpenSpec.upto fnSoftsSpec)) fnSoftsUptoCard
end Rows
end Go.Proofs.YtohngojiomgoeaaDoor
