/-
  DERIVED. GIVEN WITH THE SEED: THE CARDS: each row of YtonmdodbhdmmbaaDoorRows.lean that lists a variable, with what it lists TIED to the program's text (the seventh form; the later family's looks); each row that meets fmt, with fmt's text TOLD by the authors' own Lean function (tested against real Go, not proved from fmt's source: count such statements apart). THE CARD IS WHAT COUNTS. Prove the row's statement (the work); the ties are given (YtonmdodbhdmmbaaDoorTie.lean); close each card by the builder's one call (the guide's Derived/Test/ToyasCard.lean, 'card_holds'). Laid BY PROGRAM, IN A SANDBOX (cutbox-door.mjs). By AI agents, Wed Nov 11 2026. No macro, syntax, notation, axiom, sorry.
-/
import Derived.Test.YtonmdodbhdmmbaaDoorRows
import GoSem.ClaimSeven
namespace Go.Proofs.YtonmdodbhdmmbaaDoor
namespace Rows

/-- THE TIED CARD OF 'laws.FnExactFenceWire'. -/
def fnExactFenceWireCard : Claim7 := { stood := { row := fnExactFenceWireRow, standIns := [], harness := (true, "01812efbbad5abbe13dba53cb3d864f3c3183159291b60f188673ce94644c45d"), looks := true }, kinds := [], alts := [], laidByText := true, laidKinds := [.handle, .sentinel], laidTests := true, laidLooks := .later }
def FnExactFenceWireCardSaid : Prop := Claim7.holds Tryd.pinned (.plain (OpenSpec.ofChange fnExactFenceWireSpec)) fnExactFenceWireCard

/-- THE TIED CARD OF 'laws.FnExactTakeInput'. -/
def fnExactTakeInputCard : Claim7 := { stood := { row := fnExactTakeInputRow, standIns := [], harness := (true, "01812efbbad5abbe13dba53cb3d864f3c3183159291b60f188673ce94644c45d"), looks := true }, kinds := [], alts := [], laidByText := true, laidKinds := [.handle, .sentinel], laidTests := true, laidLooks := .later }
def FnExactTakeInputCardSaid : Prop := Claim7.holds Tryd.pinned (.plain (OpenSpec.ofChange fnExactTakeInputSpec)) fnExactTakeInputCard

/-- THE TIED CARD OF 'laws.FnExactAckInput'. -/
def fnExactAckInputCard : Claim7 := { stood := { row := fnExactAckInputRow, standIns := [], harness := (true, "01812efbbad5abbe13dba53cb3d864f3c3183159291b60f188673ce94644c45d"), looks := true }, kinds := [], alts := [], laidByText := true, laidKinds := [.handle, .sentinel], laidTests := true, laidLooks := .later }
def FnExactAckInputCardSaid : Prop := Claim7.holds Tryd.pinned (.plain (OpenSpec.ofChange fnExactAckInputSpec)) fnExactAckInputCard

/-- THE TIED CARD OF 'laws.FnExactDeliverOut'. -/
def fnExactDeliverOutCard : Claim7 := { stood := { row := fnExactDeliverOutRow, standIns := [], harness := (true, "01812efbbad5abbe13dba53cb3d864f3c3183159291b60f188673ce94644c45d"), looks := true }, kinds := [], alts := [], laidByText := true, laidKinds := [.handle, .sentinel], laidTests := true, laidLooks := .later }
def FnExactDeliverOutCardSaid : Prop := Claim7.holds Tryd.pinned (.plain (OpenSpec.ofChange fnExactDeliverOutSpec)) fnExactDeliverOutCard

/-- THE SECOND FORM's CARD OF 'laws.FnExactFenceWire'. -/
def fnExactFenceWireUptoCard : Claim7 := { stood := { row := fnExactFenceWireUptoRow, standIns := [], harness := (true, "01812efbbad5abbe13dba53cb3d864f3c3183159291b60f188673ce94644c45d"), looks := true }, kinds := [], alts := [], laidByText := true, laidKinds := [.handle, .sentinel], laidTests := true, laidLooks := .later }
def FnExactFenceWireUptoCardSaid : Prop := Claim7.holds Tryd.pinned (.plain (OpenSpec.upto fnExactFenceWireSpec)) fnExactFenceWireUptoCard

/-- THE SECOND FORM's CARD OF 'laws.FnExactTakeInput'. -/
def fnExactTakeInputUptoCard : Claim7 := { stood := { row := fnExactTakeInputUptoRow, standIns := [], harness := (true, "01812efbbad5abbe13dba53cb3d864f3c3183159291b60f188673ce94644c45d"), looks := true }, kinds := [], alts := [], laidByText := true, laidKinds := [.handle, .sentinel], laidTests := true, laidLooks := .later }
def FnExactTakeInputUptoCardSaid : Prop := Claim7.holds Tryd.pinned (.plain (OpenSpec.upto fnExactTakeInputSpec)) fnExactTakeInputUptoCard

/-- THE SECOND FORM's CARD OF 'laws.FnExactAckInput'. -/
def fnExactAckInputUptoCard : Claim7 := { stood := { row := fnExactAckInputUptoRow, standIns := [], harness := (true, "01812efbbad5abbe13dba53cb3d864f3c3183159291b60f188673ce94644c45d"), looks := true }, kinds := [], alts := [], laidByText := true, laidKinds := [.handle, .sentinel], laidTests := true, laidLooks := .later }
def FnExactAckInputUptoCardSaid : Prop := Claim7.holds Tryd.pinned (.plain (OpenSpec.upto fnExactAckInputSpec)) fnExactAckInputUptoCard

/-- THE SECOND FORM's CARD OF 'laws.FnExactDeliverOut'. -/
def fnExactDeliverOutUptoCard : Claim7 := { stood := { row := fnExactDeliverOutUptoRow, standIns := [], harness := (true, "01812efbbad5abbe13dba53cb3d864f3c3183159291b60f188673ce94644c45d"), looks := true }, kinds := [], alts := [], laidByText := true, laidKinds := [.handle, .sentinel], laidTests := true, laidLooks := .later }
def FnExactDeliverOutUptoCardSaid : Prop := Claim7.holds Tryd.pinned (.plain (OpenSpec.upto fnExactDeliverOutSpec)) fnExactDeliverOutUptoCard
end Rows
end Go.Proofs.YtonmdodbhdmmbaaDoor
