/-
  NARROWER THAN 'FOR EVERY INPUT', by the rows' own cells (each row's printed sentence says how): FnExactFenceWire: ifaces, laid · FnExactTakeInput: ifaces, laid · FnExactAckInput: ifaces, laid · FnExactDeliverOut: ifaces, laid.
  DERIVED. THE GIVEN ROWS OF THIS SEAT. 4 by the template 'for every input the law returns true; each argument reads behind the call as it read before'; 0 by the template 'total and deterministic' (their statements: YtonmdodbhdmmbaaDoorTotals.lean).
  GIVEN WITH THE SEED: the statements are not yours to turn. If you find one false, say at which input.
  Laid BY PROGRAM, IN A SANDBOX (cutbox-rows.mjs): the forced cells as the released guide's own fill.sh prints them over the translation 4b91d8f6971a0e3d… (all of the seat's roots in one cut). By AI agents, Wed Nov 11 2026. No macro, syntax, notation, axiom, sorry.
-/
import Derived.Test.YtonmdodbhdmmbaaDoorChecked
import GoSem.Claim
import GoSem.ClaimJoined
import GoSem.ClaimMapViews
import Derived.JoinedTies
import Derived.KernelRfl
namespace Go.Proofs.YtonmdodbhdmmbaaDoor
/- THE CELL 'sum', in the pinned program and in every row, IS THE sha256 OF THE DUMP (.gsa) THAT YtonmdodbhdmmbaaDoorProg.lean LOADS. Nothing in Lean hashes anything: it is a label: what it is worth is what the hold of that sum in a sandbox is worth. -/
noncomputable def Tryd.pinned : Pinned := { name := "ytonmdodbhdmmbaadoor", sum := "4b91d8f6971a0e3d9eed7a247551f9f8fd53d67b662fc4c96e56eb8c7c20c638", checked := Tryd.checked }
namespace Rows
def none {H : Type} : Left H := { results := [], args := [] }

/- WHAT THE LISTED PACKAGE-LEVEL VARIABLES READ AS WHEN THE CALL BEGINS. Each datum BY PROGRAM (the guide's laid-datum.mjs) off the statement by which the dump's own 'gosem.cut.vars' lays the variable. In a bare row this is a premise. The card (YtonmdodbhdmmbaaDoorCards.lean) ties it to the program's text. -/
def laid_errors_errorType {H : Type} : DataW H := .iface "internal/reflectlite.rtype" (.agg [.ptr (.lit (.string [101, 114, 114, 111, 114]))])
def laid_loop_example_g00263_impl_errNoEpoch {H : Type} : DataW H := .iface "*errors.errorString" (.ptr (.agg [.lit (.string [116, 104, 101, 32, 101, 112, 111, 99, 104, 32, 105, 115, 32, 110, 111, 110, 101])]))

/-- 'laws.FnExactFenceWire': WHATEVER THE INPUT: true; the input reads as it did. -/
def fnExactFenceWireSpec : ChangeSpec := { name := "fnExactFenceWire", vars := ["loop.example/g00263/impl.errNoEpoch"], fn := fun _ => fun
  | [d1, d2, g1] => { results := [.lit (.bool true)], args := [d1, d2], vars := [g1] }
  | _ => none }
def fnExactFenceWireRow : OpenClaim := { program := "ytonmdodbhdmmbaadoor", sum := "4b91d8f6971a0e3d9eed7a247551f9f8fd53d67b662fc4c96e56eb8c7c20c638", func := "loop.example/g00263/laws.FnExactFenceWire", spec := "fnExactFenceWire", inPlace := ["internal/reflectlite.ValueOf", "(internal/reflectlite.Value).Type", "(internal/reflectlite.Value).IsNil", "internal/reflectlite.TypeOf", "(internal/reflectlite.Value).Elem", "(internal/reflectlite.Value).Set"], unfollowed := true, recurses := true, named := ["loop.example/g00263/impl.errNoEpoch", "errors.errorType"], ifaces := true, apart := false, laid := [("errors.errorType", laid_errors_errorType), ("loop.example/g00263/impl.errNoEpoch", laid_loop_example_g00263_impl_errNoEpoch)] }
def FnExactFenceWireSaid : Prop := fnExactFenceWireRow.holds Tryd.pinned (OpenSpec.ofChange fnExactFenceWireSpec)

/-- ITS FALSE NEIGHBOUR: 'it returns false'. Refute it at one input. -/
def fnExactFenceWireWrong : ChangeSpec := { name := "fnExactFenceWire", vars := ["loop.example/g00263/impl.errNoEpoch"], fn := fun _ => fun
  | [d1, d2, g1] => { results := [.lit (.bool false)], args := [d1, d2], vars := [g1] }
  | _ => none }
def FnExactFenceWireWrongFalsely : Prop := fnExactFenceWireRow.holds Tryd.pinned (OpenSpec.ofChange fnExactFenceWireWrong)

/-- 'laws.FnExactTakeInput': WHATEVER THE INPUT: true; the input reads as it did. -/
def fnExactTakeInputSpec : ChangeSpec := { name := "fnExactTakeInput", vars := ["loop.example/g00263/impl.errNoEpoch"], fn := fun _ => fun
  | [d1, d2, d3, d4, g1] => { results := [.lit (.bool true)], args := [d1, d2, d3, d4], vars := [g1] }
  | _ => none }
def fnExactTakeInputRow : OpenClaim := { program := "ytonmdodbhdmmbaadoor", sum := "4b91d8f6971a0e3d9eed7a247551f9f8fd53d67b662fc4c96e56eb8c7c20c638", func := "loop.example/g00263/laws.FnExactTakeInput", spec := "fnExactTakeInput", inPlace := ["internal/reflectlite.ValueOf", "(internal/reflectlite.Value).Type", "(internal/reflectlite.Value).IsNil", "internal/reflectlite.TypeOf", "(internal/reflectlite.Value).Elem", "(internal/reflectlite.Value).Set"], unfollowed := true, recurses := true, named := ["loop.example/g00263/impl.errNoEpoch", "errors.errorType"], ifaces := true, apart := false, laid := [("errors.errorType", laid_errors_errorType), ("loop.example/g00263/impl.errNoEpoch", laid_loop_example_g00263_impl_errNoEpoch)] }
def FnExactTakeInputSaid : Prop := fnExactTakeInputRow.holds Tryd.pinned (OpenSpec.ofChange fnExactTakeInputSpec)

/-- ITS FALSE NEIGHBOUR: 'it returns false'. Refute it at one input. -/
def fnExactTakeInputWrong : ChangeSpec := { name := "fnExactTakeInput", vars := ["loop.example/g00263/impl.errNoEpoch"], fn := fun _ => fun
  | [d1, d2, d3, d4, g1] => { results := [.lit (.bool false)], args := [d1, d2, d3, d4], vars := [g1] }
  | _ => none }
def FnExactTakeInputWrongFalsely : Prop := fnExactTakeInputRow.holds Tryd.pinned (OpenSpec.ofChange fnExactTakeInputWrong)

/-- 'laws.FnExactAckInput': WHATEVER THE INPUT: true; the input reads as it did. -/
def fnExactAckInputSpec : ChangeSpec := { name := "fnExactAckInput", vars := ["loop.example/g00263/impl.errNoEpoch"], fn := fun _ => fun
  | [d1, d2, d3, g1] => { results := [.lit (.bool true)], args := [d1, d2, d3], vars := [g1] }
  | _ => none }
def fnExactAckInputRow : OpenClaim := { program := "ytonmdodbhdmmbaadoor", sum := "4b91d8f6971a0e3d9eed7a247551f9f8fd53d67b662fc4c96e56eb8c7c20c638", func := "loop.example/g00263/laws.FnExactAckInput", spec := "fnExactAckInput", inPlace := ["internal/reflectlite.ValueOf", "(internal/reflectlite.Value).Type", "(internal/reflectlite.Value).IsNil", "internal/reflectlite.TypeOf", "(internal/reflectlite.Value).Elem", "(internal/reflectlite.Value).Set"], unfollowed := true, recurses := true, named := ["loop.example/g00263/impl.errNoEpoch", "errors.errorType"], ifaces := true, apart := false, laid := [("errors.errorType", laid_errors_errorType), ("loop.example/g00263/impl.errNoEpoch", laid_loop_example_g00263_impl_errNoEpoch)] }
def FnExactAckInputSaid : Prop := fnExactAckInputRow.holds Tryd.pinned (OpenSpec.ofChange fnExactAckInputSpec)

/-- ITS FALSE NEIGHBOUR: 'it returns false'. Refute it at one input. -/
def fnExactAckInputWrong : ChangeSpec := { name := "fnExactAckInput", vars := ["loop.example/g00263/impl.errNoEpoch"], fn := fun _ => fun
  | [d1, d2, d3, g1] => { results := [.lit (.bool false)], args := [d1, d2, d3], vars := [g1] }
  | _ => none }
def FnExactAckInputWrongFalsely : Prop := fnExactAckInputRow.holds Tryd.pinned (OpenSpec.ofChange fnExactAckInputWrong)

/-- 'laws.FnExactDeliverOut': WHATEVER THE INPUT: true; the input reads as it did. -/
def fnExactDeliverOutSpec : ChangeSpec := { name := "fnExactDeliverOut", vars := ["loop.example/g00263/impl.errNoEpoch"], fn := fun _ => fun
  | [d1, d2, d3, d4, g1] => { results := [.lit (.bool true)], args := [d1, d2, d3, d4], vars := [g1] }
  | _ => none }
def fnExactDeliverOutRow : OpenClaim := { program := "ytonmdodbhdmmbaadoor", sum := "4b91d8f6971a0e3d9eed7a247551f9f8fd53d67b662fc4c96e56eb8c7c20c638", func := "loop.example/g00263/laws.FnExactDeliverOut", spec := "fnExactDeliverOut", inPlace := ["internal/reflectlite.ValueOf", "(internal/reflectlite.Value).Type", "(internal/reflectlite.Value).IsNil", "internal/reflectlite.TypeOf", "(internal/reflectlite.Value).Elem", "(internal/reflectlite.Value).Set"], unfollowed := true, recurses := true, named := ["loop.example/g00263/impl.errNoEpoch", "errors.errorType"], ifaces := true, apart := false, laid := [("errors.errorType", laid_errors_errorType), ("loop.example/g00263/impl.errNoEpoch", laid_loop_example_g00263_impl_errNoEpoch)] }
def FnExactDeliverOutSaid : Prop := fnExactDeliverOutRow.holds Tryd.pinned (OpenSpec.ofChange fnExactDeliverOutSpec)

/-- ITS FALSE NEIGHBOUR: 'it returns false'. Refute it at one input. -/
def fnExactDeliverOutWrong : ChangeSpec := { name := "fnExactDeliverOut", vars := ["loop.example/g00263/impl.errNoEpoch"], fn := fun _ => fun
  | [d1, d2, d3, d4, g1] => { results := [.lit (.bool false)], args := [d1, d2, d3, d4], vars := [g1] }
  | _ => none }
def FnExactDeliverOutWrongFalsely : Prop := fnExactDeliverOutRow.holds Tryd.pinned (OpenSpec.ofChange fnExactDeliverOutWrong)

/- THE SECOND FORM. 'bulk': how many values and letters a reading holds, each counted each time it is reached (what is shared counts as often as it is met; a slice's spare places count too). A statement '..UptoSaid' is the law's where the arguments, and the package variables that the reading takes, are together of bulk at most 1048576: NARROWER than '..Said'. Prove '..Said' where nothing that the law and all that it calls make is longer than what came in: it says more and counts as full. Else prove '..UptoSaid'. A law counts once. -/
mutual
def uptoBulk {H : Type} : DataW H → Nat
  | .lit (.string bytes) => bytes.length + 1
  | .lit _ => 1
  | .nil => 1
  | .ptr d => uptoBulk d + 1
  | .slice elems spare => uptoBulkAll elems + uptoBulkAll spare + 1
  | .agg parts => uptoBulkAll parts + 1
  | .iface _ d => uptoBulk d + 1
  | .map entries => uptoBulkEntries entries + 1
  | .held _ => 1
def uptoBulkAll {H : Type} : List (DataW H) → Nat
  | [] => 0
  | d :: r => uptoBulk d + uptoBulkAll r
def uptoBulkEntries {H : Type} : List (Lit × DataW H) → Nat
  | [] => 0
  | x :: r => uptoBulkEntry x + uptoBulkEntries r
def uptoBulkEntry {H : Type} : Lit × DataW H → Nat
  | (.string bytes, d) => bytes.length + uptoBulk d + 1
  | (_, d) => uptoBulk d + 1
 end
def uptoSmall : (H : Type) → List (DataW H) → Bool := fun _ ds => decide (uptoBulkAll ds ≤ 1048576)
def OpenSpec.upto (s : _root_.Go.ChangeSpec) : _root_.Go.OpenSpec := { _root_.Go.OpenSpec.ofChange s with cond := some uptoSmall }

/-- 'laws.FnExactFenceWire', WHERE WHAT IT READS IS OF BULK AT MOST 1048576: true; the input reads as it did. -/
def fnExactFenceWireUptoRow : OpenClaim := { program := "ytonmdodbhdmmbaadoor", sum := "4b91d8f6971a0e3d9eed7a247551f9f8fd53d67b662fc4c96e56eb8c7c20c638", func := "loop.example/g00263/laws.FnExactFenceWire", spec := "fnExactFenceWire", inPlace := ["internal/reflectlite.ValueOf", "(internal/reflectlite.Value).Type", "(internal/reflectlite.Value).IsNil", "internal/reflectlite.TypeOf", "(internal/reflectlite.Value).Elem", "(internal/reflectlite.Value).Set"], unfollowed := true, recurses := true, named := ["loop.example/g00263/impl.errNoEpoch", "errors.errorType"], ifaces := true, apart := false, laid := [("errors.errorType", laid_errors_errorType), ("loop.example/g00263/impl.errNoEpoch", laid_loop_example_g00263_impl_errNoEpoch)], narrowed := true }
def FnExactFenceWireUptoSaid : Prop := fnExactFenceWireUptoRow.holds Tryd.pinned (OpenSpec.upto fnExactFenceWireSpec)

/-- 'laws.FnExactTakeInput', WHERE WHAT IT READS IS OF BULK AT MOST 1048576: true; the input reads as it did. -/
def fnExactTakeInputUptoRow : OpenClaim := { program := "ytonmdodbhdmmbaadoor", sum := "4b91d8f6971a0e3d9eed7a247551f9f8fd53d67b662fc4c96e56eb8c7c20c638", func := "loop.example/g00263/laws.FnExactTakeInput", spec := "fnExactTakeInput", inPlace := ["internal/reflectlite.ValueOf", "(internal/reflectlite.Value).Type", "(internal/reflectlite.Value).IsNil", "internal/reflectlite.TypeOf", "(internal/reflectlite.Value).Elem", "(internal/reflectlite.Value).Set"], unfollowed := true, recurses := true, named := ["loop.example/g00263/impl.errNoEpoch", "errors.errorType"], ifaces := true, apart := false, laid := [("errors.errorType", laid_errors_errorType), ("loop.example/g00263/impl.errNoEpoch", laid_loop_example_g00263_impl_errNoEpoch)], narrowed := true }
def FnExactTakeInputUptoSaid : Prop := fnExactTakeInputUptoRow.holds Tryd.pinned (OpenSpec.upto fnExactTakeInputSpec)

/-- 'laws.FnExactAckInput', WHERE WHAT IT READS IS OF BULK AT MOST 1048576: true; the input reads as it did. -/
def fnExactAckInputUptoRow : OpenClaim := { program := "ytonmdodbhdmmbaadoor", sum := "4b91d8f6971a0e3d9eed7a247551f9f8fd53d67b662fc4c96e56eb8c7c20c638", func := "loop.example/g00263/laws.FnExactAckInput", spec := "fnExactAckInput", inPlace := ["internal/reflectlite.ValueOf", "(internal/reflectlite.Value).Type", "(internal/reflectlite.Value).IsNil", "internal/reflectlite.TypeOf", "(internal/reflectlite.Value).Elem", "(internal/reflectlite.Value).Set"], unfollowed := true, recurses := true, named := ["loop.example/g00263/impl.errNoEpoch", "errors.errorType"], ifaces := true, apart := false, laid := [("errors.errorType", laid_errors_errorType), ("loop.example/g00263/impl.errNoEpoch", laid_loop_example_g00263_impl_errNoEpoch)], narrowed := true }
def FnExactAckInputUptoSaid : Prop := fnExactAckInputUptoRow.holds Tryd.pinned (OpenSpec.upto fnExactAckInputSpec)

/-- 'laws.FnExactDeliverOut', WHERE WHAT IT READS IS OF BULK AT MOST 1048576: true; the input reads as it did. -/
def fnExactDeliverOutUptoRow : OpenClaim := { program := "ytonmdodbhdmmbaadoor", sum := "4b91d8f6971a0e3d9eed7a247551f9f8fd53d67b662fc4c96e56eb8c7c20c638", func := "loop.example/g00263/laws.FnExactDeliverOut", spec := "fnExactDeliverOut", inPlace := ["internal/reflectlite.ValueOf", "(internal/reflectlite.Value).Type", "(internal/reflectlite.Value).IsNil", "internal/reflectlite.TypeOf", "(internal/reflectlite.Value).Elem", "(internal/reflectlite.Value).Set"], unfollowed := true, recurses := true, named := ["loop.example/g00263/impl.errNoEpoch", "errors.errorType"], ifaces := true, apart := false, laid := [("errors.errorType", laid_errors_errorType), ("loop.example/g00263/impl.errNoEpoch", laid_loop_example_g00263_impl_errNoEpoch)], narrowed := true }
def FnExactDeliverOutUptoSaid : Prop := fnExactDeliverOutUptoRow.holds Tryd.pinned (OpenSpec.upto fnExactDeliverOutSpec)

end Rows
end Go.Proofs.YtonmdodbhdmmbaaDoor
