/-
  No cell of these rows narrows 'for every input' (looked for: loops, veiled, ifaces, maps, wideKeys, modest, calm, conditions, laid).
  DERIVED. THE GIVEN ROWS OF THIS SEAT. 2 by the template 'for every input the law returns true; each argument reads behind the call as it read before'; 0 by the template 'total and deterministic' (their statements: YtonmdodbhdmmbaaTotals.lean).
  GIVEN WITH THE SEED: the statements are not yours to turn. If you find one false, say at which input.
  Laid BY PROGRAM, IN A SANDBOX (cutbox-rows.mjs): the forced cells as the released guide's own fill.sh prints them over the translation 740788e2a5c543fb… (all of the seat's roots in one cut). By AI agents, Wed Nov 11 2026. No macro, syntax, notation, axiom, sorry.
-/
import Derived.Test.YtonmdodbhdmmbaaChecked
import GoSem.Claim
import GoSem.ClaimJoined
import GoSem.ClaimMapViews
import Derived.JoinedTies
import Derived.KernelRfl
namespace Go.Proofs.Ytonmdodbhdmmbaa
/- THE CELL 'sum', in the pinned program and in every row, IS THE sha256 OF THE DUMP (.gsa) THAT YtonmdodbhdmmbaaProg.lean LOADS. Nothing in Lean hashes anything: it is a label: what it is worth is what the hold of that sum in a sandbox is worth. -/
noncomputable def Try.pinned : Pinned := { name := "ytonmdodbhdmmbaa", sum := "740788e2a5c543fb59187c93d7d35189fda69cb50dc207097f901ee9a36489b6", checked := Try.checked }
namespace Rows
def none {H : Type} : Left H := { results := [], args := [] }

/-- 'laws.FnExactWireFault': WHATEVER THE INPUT: true; the input reads as it did. -/
def fnExactWireFaultSpec : ChangeSpec := { name := "fnExactWireFault", fn := fun _ => fun
  | [d] => { results := [.lit (.bool true)], args := [d] }
  | _ => none }
def fnExactWireFaultRow : OpenClaim := { program := "ytonmdodbhdmmbaa", sum := "740788e2a5c543fb59187c93d7d35189fda69cb50dc207097f901ee9a36489b6", func := "loop.example/g00263/laws.FnExactWireFault", spec := "fnExactWireFault", apart := false }
def FnExactWireFaultSaid : Prop := fnExactWireFaultRow.holds Try.pinned (OpenSpec.ofChange fnExactWireFaultSpec)

/-- ITS FALSE NEIGHBOUR: 'it returns false'. Refute it at one input. -/
def fnExactWireFaultWrong : ChangeSpec := { name := "fnExactWireFault", fn := fun _ => fun
  | [d] => { results := [.lit (.bool false)], args := [d] }
  | _ => none }
def FnExactWireFaultWrongFalsely : Prop := fnExactWireFaultRow.holds Try.pinned (OpenSpec.ofChange fnExactWireFaultWrong)

/-- 'laws.FnExactPeerSends': WHATEVER THE INPUT: true; the input reads as it did. -/
def fnExactPeerSendsSpec : ChangeSpec := { name := "fnExactPeerSends", fn := fun _ => fun
  | [d1, d2] => { results := [.lit (.bool true)], args := [d1, d2] }
  | _ => none }
def fnExactPeerSendsRow : OpenClaim := { program := "ytonmdodbhdmmbaa", sum := "740788e2a5c543fb59187c93d7d35189fda69cb50dc207097f901ee9a36489b6", func := "loop.example/g00263/laws.FnExactPeerSends", spec := "fnExactPeerSends", apart := false }
def FnExactPeerSendsSaid : Prop := fnExactPeerSendsRow.holds Try.pinned (OpenSpec.ofChange fnExactPeerSendsSpec)

/-- ITS FALSE NEIGHBOUR: 'it returns false'. Refute it at one input. -/
def fnExactPeerSendsWrong : ChangeSpec := { name := "fnExactPeerSends", fn := fun _ => fun
  | [d1, d2] => { results := [.lit (.bool false)], args := [d1, d2] }
  | _ => none }
def FnExactPeerSendsWrongFalsely : Prop := fnExactPeerSendsRow.holds Try.pinned (OpenSpec.ofChange fnExactPeerSendsWrong)

/- THE SECOND FORM. 'bulk': how many values and letters a reading holds, each counted each time it is reached (what is shared counts as often as it is met; a slice's spare places count too). A statement '..UptoSaid' is the law's where the arguments, and the package variables that the reading takes, are together of bulk at most 1048576: NARROWER than '..Said'. Prove '..Said' where nothing that the law and all that it calls make is longer than what came in: it says more and counts as full. Else prove '..UptoSaid'. A law counts once. -/
mutual
def uptoBulk {H : Type} : DataW H → Nat
  | .lit (.string bytes) => bytes.length + 1
  | .lit _ => 1
  | .nil => 1
  | .ptr d => uptoBulk d + 1
  | .slice elems spare => uptoBulkAll elems + uptoBulkAll spare + 1
  | .agg parts => uptoBulkAll parts + 1
  | .iface _ d => uptoBulk d + 1
  | .map entries => uptoBulkEntries entries + 1
  | .held _ => 1
def uptoBulkAll {H : Type} : List (DataW H) → Nat
  | [] => 0
  | d :: r => uptoBulk d + uptoBulkAll r
def uptoBulkEntries {H : Type} : List (Lit × DataW H) → Nat
  | [] => 0
  | x :: r => uptoBulkEntry x + uptoBulkEntries r
def uptoBulkEntry {H : Type} : Lit × DataW H → Nat
  | (.string bytes, d) => bytes.length + uptoBulk d + 1
  | (_, d) => uptoBulk d + 1
 end
def uptoSmall : (H : Type) → List (DataW H) → Bool := fun _ ds => decide (uptoBulkAll ds ≤ 1048576)
def OpenSpec.upto (s : _root_.Go.ChangeSpec) : _root_.Go.OpenSpec := { _root_.Go.OpenSpec.ofChange s with cond := some uptoSmall }

/-- 'laws.FnExactWireFault', WHERE WHAT IT READS IS OF BULK AT MOST 1048576: true; the input reads as it did. -/
def fnExactWireFaultUptoRow : OpenClaim := { program := "ytonmdodbhdmmbaa", sum := "740788e2a5c543fb59187c93d7d35189fda69cb50dc207097f901ee9a36489b6", func := "loop.example/g00263/laws.FnExactWireFault", spec := "fnExactWireFault", apart := false, narrowed := true }
def FnExactWireFaultUptoSaid : Prop := fnExactWireFaultUptoRow.holds Try.pinned (OpenSpec.upto fnExactWireFaultSpec)

/-- 'laws.FnExactPeerSends', WHERE WHAT IT READS IS OF BULK AT MOST 1048576: true; the input reads as it did. -/
def fnExactPeerSendsUptoRow : OpenClaim := { program := "ytonmdodbhdmmbaa", sum := "740788e2a5c543fb59187c93d7d35189fda69cb50dc207097f901ee9a36489b6", func := "loop.example/g00263/laws.FnExactPeerSends", spec := "fnExactPeerSends", apart := false, narrowed := true }
def FnExactPeerSendsUptoSaid : Prop := fnExactPeerSendsUptoRow.holds Try.pinned (OpenSpec.upto fnExactPeerSendsSpec)

end Rows
end Go.Proofs.Ytonmdodbhdmmbaa
