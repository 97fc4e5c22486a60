/-
  No cell of these rows narrows 'for every input' (looked for: loops, veiled, ifaces, maps, wideKeys, modest, calm, conditions, laid).
  DERIVED. THE GIVEN ROWS OF THIS SEAT. 9 by the template 'for every input the law returns true; each argument reads behind the call as it read before'; 0 by the template 'total and deterministic' (their statements: YtpbmbnckdmjdhaaTotals.lean).
  GIVEN WITH THE SEED: the statements are not yours to turn. If you find one false, say at which input.
  Laid BY PROGRAM, IN A SANDBOX (cutbox-rows.mjs): the forced cells as the released guide's own fill.sh prints them over the translation 5efa11b98d67f8e0… (all of the seat's roots in one cut). By AI agents, Wed Nov 11 2026. No macro, syntax, notation, axiom, sorry.
-/
import Derived.Test.YtpbmbnckdmjdhaaChecked
import GoSem.Claim
import GoSem.ClaimJoined
import GoSem.ClaimMapViews
import Derived.JoinedTies
import Derived.KernelRfl
namespace Go.Proofs.Ytpbmbnckdmjdhaa
/- THE CELL 'sum', in the pinned program and in every row, IS THE sha256 OF THE DUMP (.gsa) THAT YtpbmbnckdmjdhaaProg.lean LOADS. Nothing in Lean hashes anything: it is a label: what it is worth is what the hold of that sum in a sandbox is worth. -/
noncomputable def Try.pinned : Pinned := { name := "ytpbmbnckdmjdhaa", sum := "5efa11b98d67f8e06fa0bbc349b4b26ffa202ac3e273c0a733b4a4d8170d5a9b", checked := Try.checked }
namespace Rows
def none {H : Type} : Left H := { results := [], args := [] }

/-- 'laws.FnLeases': WHATEVER THE INPUT: true; the input reads as it did. -/
def fnLeasesSpec : ChangeSpec := { name := "fnLeases", fn := fun _ => fun
  | [d] => { results := [.lit (.bool true)], args := [d] }
  | _ => none }
def fnLeasesRow : OpenClaim := { program := "ytpbmbnckdmjdhaa", sum := "5efa11b98d67f8e06fa0bbc349b4b26ffa202ac3e273c0a733b4a4d8170d5a9b", func := "loop.example/g00263/laws.FnLeases", spec := "fnLeases", apart := false }
def FnLeasesSaid : Prop := fnLeasesRow.holds Try.pinned (OpenSpec.ofChange fnLeasesSpec)

/-- ITS FALSE NEIGHBOUR: 'it returns false'. Refute it at one input. -/
def fnLeasesWrong : ChangeSpec := { name := "fnLeases", fn := fun _ => fun
  | [d] => { results := [.lit (.bool false)], args := [d] }
  | _ => none }
def FnLeasesWrongFalsely : Prop := fnLeasesRow.holds Try.pinned (OpenSpec.ofChange fnLeasesWrong)

/-- 'laws.FnClocks': WHATEVER THE INPUT: true; the input reads as it did. -/
def fnClocksSpec : ChangeSpec := { name := "fnClocks", fn := fun _ => fun
  | [d] => { results := [.lit (.bool true)], args := [d] }
  | _ => none }
def fnClocksRow : OpenClaim := { program := "ytpbmbnckdmjdhaa", sum := "5efa11b98d67f8e06fa0bbc349b4b26ffa202ac3e273c0a733b4a4d8170d5a9b", func := "loop.example/g00263/laws.FnClocks", spec := "fnClocks", apart := false }
def FnClocksSaid : Prop := fnClocksRow.holds Try.pinned (OpenSpec.ofChange fnClocksSpec)

/-- ITS FALSE NEIGHBOUR: 'it returns false'. Refute it at one input. -/
def fnClocksWrong : ChangeSpec := { name := "fnClocks", fn := fun _ => fun
  | [d] => { results := [.lit (.bool false)], args := [d] }
  | _ => none }
def FnClocksWrongFalsely : Prop := fnClocksRow.holds Try.pinned (OpenSpec.ofChange fnClocksWrong)

/-- 'laws.FnExactLeaseFault': WHATEVER THE INPUT: true; the input reads as it did. -/
def fnExactLeaseFaultSpec : ChangeSpec := { name := "fnExactLeaseFault", fn := fun _ => fun
  | [d] => { results := [.lit (.bool true)], args := [d] }
  | _ => none }
def fnExactLeaseFaultRow : OpenClaim := { program := "ytpbmbnckdmjdhaa", sum := "5efa11b98d67f8e06fa0bbc349b4b26ffa202ac3e273c0a733b4a4d8170d5a9b", func := "loop.example/g00263/laws.FnExactLeaseFault", spec := "fnExactLeaseFault", apart := false }
def FnExactLeaseFaultSaid : Prop := fnExactLeaseFaultRow.holds Try.pinned (OpenSpec.ofChange fnExactLeaseFaultSpec)

/-- ITS FALSE NEIGHBOUR: 'it returns false'. Refute it at one input. -/
def fnExactLeaseFaultWrong : ChangeSpec := { name := "fnExactLeaseFault", fn := fun _ => fun
  | [d] => { results := [.lit (.bool false)], args := [d] }
  | _ => none }
def FnExactLeaseFaultWrongFalsely : Prop := fnExactLeaseFaultRow.holds Try.pinned (OpenSpec.ofChange fnExactLeaseFaultWrong)

/-- 'laws.FnExactClockFault': WHATEVER THE INPUT: true; the input reads as it did. -/
def fnExactClockFaultSpec : ChangeSpec := { name := "fnExactClockFault", fn := fun _ => fun
  | [d] => { results := [.lit (.bool true)], args := [d] }
  | _ => none }
def fnExactClockFaultRow : OpenClaim := { program := "ytpbmbnckdmjdhaa", sum := "5efa11b98d67f8e06fa0bbc349b4b26ffa202ac3e273c0a733b4a4d8170d5a9b", func := "loop.example/g00263/laws.FnExactClockFault", spec := "fnExactClockFault", apart := false }
def FnExactClockFaultSaid : Prop := fnExactClockFaultRow.holds Try.pinned (OpenSpec.ofChange fnExactClockFaultSpec)

/-- ITS FALSE NEIGHBOUR: 'it returns false'. Refute it at one input. -/
def fnExactClockFaultWrong : ChangeSpec := { name := "fnExactClockFault", fn := fun _ => fun
  | [d] => { results := [.lit (.bool false)], args := [d] }
  | _ => none }
def FnExactClockFaultWrongFalsely : Prop := fnExactClockFaultRow.holds Try.pinned (OpenSpec.ofChange fnExactClockFaultWrong)

/-- 'laws.FnExactGrantLease': WHATEVER THE INPUT: true; the input reads as it did. -/
def fnExactGrantLeaseSpec : ChangeSpec := { name := "fnExactGrantLease", fn := fun _ => fun
  | [d1, d2, d3] => { results := [.lit (.bool true)], args := [d1, d2, d3] }
  | _ => none }
def fnExactGrantLeaseRow : OpenClaim := { program := "ytpbmbnckdmjdhaa", sum := "5efa11b98d67f8e06fa0bbc349b4b26ffa202ac3e273c0a733b4a4d8170d5a9b", func := "loop.example/g00263/laws.FnExactGrantLease", spec := "fnExactGrantLease", apart := false }
def FnExactGrantLeaseSaid : Prop := fnExactGrantLeaseRow.holds Try.pinned (OpenSpec.ofChange fnExactGrantLeaseSpec)

/-- ITS FALSE NEIGHBOUR: 'it returns false'. Refute it at one input. -/
def fnExactGrantLeaseWrong : ChangeSpec := { name := "fnExactGrantLease", fn := fun _ => fun
  | [d1, d2, d3] => { results := [.lit (.bool false)], args := [d1, d2, d3] }
  | _ => none }
def FnExactGrantLeaseWrongFalsely : Prop := fnExactGrantLeaseRow.holds Try.pinned (OpenSpec.ofChange fnExactGrantLeaseWrong)

/-- 'laws.FnExactMayLead': WHATEVER THE INPUT: true; the input reads as it did. -/
def fnExactMayLeadSpec : ChangeSpec := { name := "fnExactMayLead", fn := fun _ => fun
  | [d1, d2] => { results := [.lit (.bool true)], args := [d1, d2] }
  | _ => none }
def fnExactMayLeadRow : OpenClaim := { program := "ytpbmbnckdmjdhaa", sum := "5efa11b98d67f8e06fa0bbc349b4b26ffa202ac3e273c0a733b4a4d8170d5a9b", func := "loop.example/g00263/laws.FnExactMayLead", spec := "fnExactMayLead", apart := false }
def FnExactMayLeadSaid : Prop := fnExactMayLeadRow.holds Try.pinned (OpenSpec.ofChange fnExactMayLeadSpec)

/-- ITS FALSE NEIGHBOUR: 'it returns false'. Refute it at one input. -/
def fnExactMayLeadWrong : ChangeSpec := { name := "fnExactMayLead", fn := fun _ => fun
  | [d1, d2] => { results := [.lit (.bool false)], args := [d1, d2] }
  | _ => none }
def FnExactMayLeadWrongFalsely : Prop := fnExactMayLeadRow.holds Try.pinned (OpenSpec.ofChange fnExactMayLeadWrong)

/-- 'laws.FnExactMayTake': WHATEVER THE INPUT: true; the input reads as it did. -/
def fnExactMayTakeSpec : ChangeSpec := { name := "fnExactMayTake", fn := fun _ => fun
  | [d1, d2] => { results := [.lit (.bool true)], args := [d1, d2] }
  | _ => none }
def fnExactMayTakeRow : OpenClaim := { program := "ytpbmbnckdmjdhaa", sum := "5efa11b98d67f8e06fa0bbc349b4b26ffa202ac3e273c0a733b4a4d8170d5a9b", func := "loop.example/g00263/laws.FnExactMayTake", spec := "fnExactMayTake", apart := false }
def FnExactMayTakeSaid : Prop := fnExactMayTakeRow.holds Try.pinned (OpenSpec.ofChange fnExactMayTakeSpec)

/-- ITS FALSE NEIGHBOUR: 'it returns false'. Refute it at one input. -/
def fnExactMayTakeWrong : ChangeSpec := { name := "fnExactMayTake", fn := fun _ => fun
  | [d1, d2] => { results := [.lit (.bool false)], args := [d1, d2] }
  | _ => none }
def FnExactMayTakeWrongFalsely : Prop := fnExactMayTakeRow.holds Try.pinned (OpenSpec.ofChange fnExactMayTakeWrong)

/-- 'laws.FnExactTickClock': WHATEVER THE INPUT: true; the input reads as it did. -/
def fnExactTickClockSpec : ChangeSpec := { name := "fnExactTickClock", fn := fun _ => fun
  | [d1, d2, d3] => { results := [.lit (.bool true)], args := [d1, d2, d3] }
  | _ => none }
def fnExactTickClockRow : OpenClaim := { program := "ytpbmbnckdmjdhaa", sum := "5efa11b98d67f8e06fa0bbc349b4b26ffa202ac3e273c0a733b4a4d8170d5a9b", func := "loop.example/g00263/laws.FnExactTickClock", spec := "fnExactTickClock", apart := false }
def FnExactTickClockSaid : Prop := fnExactTickClockRow.holds Try.pinned (OpenSpec.ofChange fnExactTickClockSpec)

/-- ITS FALSE NEIGHBOUR: 'it returns false'. Refute it at one input. -/
def fnExactTickClockWrong : ChangeSpec := { name := "fnExactTickClock", fn := fun _ => fun
  | [d1, d2, d3] => { results := [.lit (.bool false)], args := [d1, d2, d3] }
  | _ => none }
def FnExactTickClockWrongFalsely : Prop := fnExactTickClockRow.holds Try.pinned (OpenSpec.ofChange fnExactTickClockWrong)

/-- 'laws.FnExactTakeLease': WHATEVER THE INPUT: true; the input reads as it did. -/
def fnExactTakeLeaseSpec : ChangeSpec := { name := "fnExactTakeLease", fn := fun _ => fun
  | [d1, d2] => { results := [.lit (.bool true)], args := [d1, d2] }
  | _ => none }
def fnExactTakeLeaseRow : OpenClaim := { program := "ytpbmbnckdmjdhaa", sum := "5efa11b98d67f8e06fa0bbc349b4b26ffa202ac3e273c0a733b4a4d8170d5a9b", func := "loop.example/g00263/laws.FnExactTakeLease", spec := "fnExactTakeLease", apart := false }
def FnExactTakeLeaseSaid : Prop := fnExactTakeLeaseRow.holds Try.pinned (OpenSpec.ofChange fnExactTakeLeaseSpec)

/-- ITS FALSE NEIGHBOUR: 'it returns false'. Refute it at one input. -/
def fnExactTakeLeaseWrong : ChangeSpec := { name := "fnExactTakeLease", fn := fun _ => fun
  | [d1, d2] => { results := [.lit (.bool false)], args := [d1, d2] }
  | _ => none }
def FnExactTakeLeaseWrongFalsely : Prop := fnExactTakeLeaseRow.holds Try.pinned (OpenSpec.ofChange fnExactTakeLeaseWrong)

/- THE SECOND FORM. 'bulk': how many values and letters a reading holds, each counted each time it is reached (what is shared counts as often as it is met; a slice's spare places count too). A statement '..UptoSaid' is the law's where the arguments, and the package variables that the reading takes, are together of bulk at most 1048576: NARROWER than '..Said'. Prove '..Said' where nothing that the law and all that it calls make is longer than what came in: it says more and counts as full. Else prove '..UptoSaid'. A law counts once. -/
mutual
def uptoBulk {H : Type} : DataW H → Nat
  | .lit (.string bytes) => bytes.length + 1
  | .lit _ => 1
  | .nil => 1
  | .ptr d => uptoBulk d + 1
  | .slice elems spare => uptoBulkAll elems + uptoBulkAll spare + 1
  | .agg parts => uptoBulkAll parts + 1
  | .iface _ d => uptoBulk d + 1
  | .map entries => uptoBulkEntries entries + 1
  | .held _ => 1
def uptoBulkAll {H : Type} : List (DataW H) → Nat
  | [] => 0
  | d :: r => uptoBulk d + uptoBulkAll r
def uptoBulkEntries {H : Type} : List (Lit × DataW H) → Nat
  | [] => 0
  | x :: r => uptoBulkEntry x + uptoBulkEntries r
def uptoBulkEntry {H : Type} : Lit × DataW H → Nat
  | (.string bytes, d) => bytes.length + uptoBulk d + 1
  | (_, d) => uptoBulk d + 1
 end
def uptoSmall : (H : Type) → List (DataW H) → Bool := fun _ ds => decide (uptoBulkAll ds ≤ 1048576)
def OpenSpec.upto (s : _root_.Go.ChangeSpec) : _root_.Go.OpenSpec := { _root_.Go.OpenSpec.ofChange s with cond := some uptoSmall }

/-- 'laws.FnLeases', WHERE WHAT IT READS IS OF BULK AT MOST 1048576: true; the input reads as it did. -/
def fnLeasesUptoRow : OpenClaim := { program := "ytpbmbnckdmjdhaa", sum := "5efa11b98d67f8e06fa0bbc349b4b26ffa202ac3e273c0a733b4a4d8170d5a9b", func := "loop.example/g00263/laws.FnLeases", spec := "fnLeases", apart := false, narrowed := true }
def FnLeasesUptoSaid : Prop := fnLeasesUptoRow.holds Try.pinned (OpenSpec.upto fnLeasesSpec)

/-- 'laws.FnClocks', WHERE WHAT IT READS IS OF BULK AT MOST 1048576: true; the input reads as it did. -/
def fnClocksUptoRow : OpenClaim := { program := "ytpbmbnckdmjdhaa", sum := "5efa11b98d67f8e06fa0bbc349b4b26ffa202ac3e273c0a733b4a4d8170d5a9b", func := "loop.example/g00263/laws.FnClocks", spec := "fnClocks", apart := false, narrowed := true }
def FnClocksUptoSaid : Prop := fnClocksUptoRow.holds Try.pinned (OpenSpec.upto fnClocksSpec)

/-- 'laws.FnExactLeaseFault', WHERE WHAT IT READS IS OF BULK AT MOST 1048576: true; the input reads as it did. -/
def fnExactLeaseFaultUptoRow : OpenClaim := { program := "ytpbmbnckdmjdhaa", sum := "5efa11b98d67f8e06fa0bbc349b4b26ffa202ac3e273c0a733b4a4d8170d5a9b", func := "loop.example/g00263/laws.FnExactLeaseFault", spec := "fnExactLeaseFault", apart := false, narrowed := true }
def FnExactLeaseFaultUptoSaid : Prop := fnExactLeaseFaultUptoRow.holds Try.pinned (OpenSpec.upto fnExactLeaseFaultSpec)

/-- 'laws.FnExactClockFault', WHERE WHAT IT READS IS OF BULK AT MOST 1048576: true; the input reads as it did. -/
def fnExactClockFaultUptoRow : OpenClaim := { program := "ytpbmbnckdmjdhaa", sum := "5efa11b98d67f8e06fa0bbc349b4b26ffa202ac3e273c0a733b4a4d8170d5a9b", func := "loop.example/g00263/laws.FnExactClockFault", spec := "fnExactClockFault", apart := false, narrowed := true }
def FnExactClockFaultUptoSaid : Prop := fnExactClockFaultUptoRow.holds Try.pinned (OpenSpec.upto fnExactClockFaultSpec)

/-- 'laws.FnExactGrantLease', WHERE WHAT IT READS IS OF BULK AT MOST 1048576: true; the input reads as it did. -/
def fnExactGrantLeaseUptoRow : OpenClaim := { program := "ytpbmbnckdmjdhaa", sum := "5efa11b98d67f8e06fa0bbc349b4b26ffa202ac3e273c0a733b4a4d8170d5a9b", func := "loop.example/g00263/laws.FnExactGrantLease", spec := "fnExactGrantLease", apart := false, narrowed := true }
def FnExactGrantLeaseUptoSaid : Prop := fnExactGrantLeaseUptoRow.holds Try.pinned (OpenSpec.upto fnExactGrantLeaseSpec)

/-- 'laws.FnExactMayLead', WHERE WHAT IT READS IS OF BULK AT MOST 1048576: true; the input reads as it did. -/
def fnExactMayLeadUptoRow : OpenClaim := { program := "ytpbmbnckdmjdhaa", sum := "5efa11b98d67f8e06fa0bbc349b4b26ffa202ac3e273c0a733b4a4d8170d5a9b", func := "loop.example/g00263/laws.FnExactMayLead", spec := "fnExactMayLead", apart := false, narrowed := true }
def FnExactMayLeadUptoSaid : Prop := fnExactMayLeadUptoRow.holds Try.pinned (OpenSpec.upto fnExactMayLeadSpec)

/-- 'laws.FnExactMayTake', WHERE WHAT IT READS IS OF BULK AT MOST 1048576: true; the input reads as it did. -/
def fnExactMayTakeUptoRow : OpenClaim := { program := "ytpbmbnckdmjdhaa", sum := "5efa11b98d67f8e06fa0bbc349b4b26ffa202ac3e273c0a733b4a4d8170d5a9b", func := "loop.example/g00263/laws.FnExactMayTake", spec := "fnExactMayTake", apart := false, narrowed := true }
def FnExactMayTakeUptoSaid : Prop := fnExactMayTakeUptoRow.holds Try.pinned (OpenSpec.upto fnExactMayTakeSpec)

/-- 'laws.FnExactTickClock', WHERE WHAT IT READS IS OF BULK AT MOST 1048576: true; the input reads as it did. -/
def fnExactTickClockUptoRow : OpenClaim := { program := "ytpbmbnckdmjdhaa", sum := "5efa11b98d67f8e06fa0bbc349b4b26ffa202ac3e273c0a733b4a4d8170d5a9b", func := "loop.example/g00263/laws.FnExactTickClock", spec := "fnExactTickClock", apart := false, narrowed := true }
def FnExactTickClockUptoSaid : Prop := fnExactTickClockUptoRow.holds Try.pinned (OpenSpec.upto fnExactTickClockSpec)

/-- 'laws.FnExactTakeLease', WHERE WHAT IT READS IS OF BULK AT MOST 1048576: true; the input reads as it did. -/
def fnExactTakeLeaseUptoRow : OpenClaim := { program := "ytpbmbnckdmjdhaa", sum := "5efa11b98d67f8e06fa0bbc349b4b26ffa202ac3e273c0a733b4a4d8170d5a9b", func := "loop.example/g00263/laws.FnExactTakeLease", spec := "fnExactTakeLease", apart := false, narrowed := true }
def FnExactTakeLeaseUptoSaid : Prop := fnExactTakeLeaseUptoRow.holds Try.pinned (OpenSpec.upto fnExactTakeLeaseSpec)

end Rows
end Go.Proofs.Ytpbmbnckdmjdhaa
