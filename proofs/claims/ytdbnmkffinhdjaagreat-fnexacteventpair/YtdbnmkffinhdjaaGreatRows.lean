/-
  No cell of these rows narrows 'for every input' (looked for: loops, veiled, ifaces, maps, wideKeys, modest, calm, conditions, laid).
  DERIVED. THE GIVEN ROWS OF THIS SEAT. 2 by the template 'for every input the law returns true; each argument reads behind the call as it read before'; 0 by the template 'total and deterministic' (their statements: YtdbnmkffinhdjaaGreatTotals.lean).
  GIVEN WITH THE SEED: the statements are not yours to turn. If you find one false, say at which input.
  Laid BY PROGRAM, IN A SANDBOX (cutbox-rows.mjs): the forced cells as the released guide's own fill.sh prints them over the translation 6b42ab8aac8221b5… (all of the seat's roots in one cut). By AI agents, Wed Nov 11 2026. No macro, syntax, notation, axiom, sorry.
-/
import Derived.Test.YtdbnmkffinhdjaaGreatChecked
import GoSem.Claim
import GoSem.ClaimJoined
import GoSem.ClaimMapViews
import Derived.JoinedTies
import Derived.KernelRfl
namespace Go.Proofs.YtdbnmkffinhdjaaGreat
/- THE CELL 'sum', in the pinned program and in every row, IS THE sha256 OF THE DUMP (.gsa) THAT YtdbnmkffinhdjaaGreatProg.lean LOADS. Nothing in Lean hashes anything: it is a label: what it is worth is what the hold of that sum in a sandbox is worth. -/
noncomputable def Tryz.pinned : Pinned := { name := "ytdbnmkffinhdjaagreat", sum := "6b42ab8aac8221b5fcf242870885fb49d6ac48caa78ed922b2fa546a57debc79", checked := Tryz.checked }
namespace Rows
def none {H : Type} : Left H := { results := [], args := [] }

/-- 'laws.FnExactEventPair': WHATEVER THE INPUT: true; the input reads as it did. -/
def fnExactEventPairSpec : ChangeSpec := { name := "fnExactEventPair", fn := fun _ => fun
  | [d1, d2, d3] => { results := [.lit (.bool true)], args := [d1, d2, d3] }
  | _ => none }
def fnExactEventPairRow : OpenClaim := { program := "ytdbnmkffinhdjaagreat", sum := "6b42ab8aac8221b5fcf242870885fb49d6ac48caa78ed922b2fa546a57debc79", func := "loop.example/g00263/laws.FnExactEventPair", spec := "fnExactEventPair", unfollowed := true, recurses := true, apart := false }
def FnExactEventPairSaid : Prop := fnExactEventPairRow.holds Tryz.pinned (OpenSpec.ofChange fnExactEventPairSpec)

/-- ITS FALSE NEIGHBOUR: 'it returns false'. Refute it at one input. -/
def fnExactEventPairWrong : ChangeSpec := { name := "fnExactEventPair", fn := fun _ => fun
  | [d1, d2, d3] => { results := [.lit (.bool false)], args := [d1, d2, d3] }
  | _ => none }
def FnExactEventPairWrongFalsely : Prop := fnExactEventPairRow.holds Tryz.pinned (OpenSpec.ofChange fnExactEventPairWrong)

/-- 'laws.FnExactDeliverPair': WHATEVER THE INPUT: true; the input reads as it did. -/
def fnExactDeliverPairSpec : ChangeSpec := { name := "fnExactDeliverPair", fn := fun _ => fun
  | [d1, d2, d3] => { results := [.lit (.bool true)], args := [d1, d2, d3] }
  | _ => none }
def fnExactDeliverPairRow : OpenClaim := { program := "ytdbnmkffinhdjaagreat", sum := "6b42ab8aac8221b5fcf242870885fb49d6ac48caa78ed922b2fa546a57debc79", func := "loop.example/g00263/laws.FnExactDeliverPair", spec := "fnExactDeliverPair", unfollowed := true, recurses := true, apart := false }
def FnExactDeliverPairSaid : Prop := fnExactDeliverPairRow.holds Tryz.pinned (OpenSpec.ofChange fnExactDeliverPairSpec)

/-- ITS FALSE NEIGHBOUR: 'it returns false'. Refute it at one input. -/
def fnExactDeliverPairWrong : ChangeSpec := { name := "fnExactDeliverPair", fn := fun _ => fun
  | [d1, d2, d3] => { results := [.lit (.bool false)], args := [d1, d2, d3] }
  | _ => none }
def FnExactDeliverPairWrongFalsely : Prop := fnExactDeliverPairRow.holds Tryz.pinned (OpenSpec.ofChange fnExactDeliverPairWrong)

/- THE SECOND FORM. 'bulk': how many values and letters a reading holds, each counted each time it is reached (what is shared counts as often as it is met; a slice's spare places count too). A statement '..UptoSaid' is the law's where the arguments, and the package variables that the reading takes, are together of bulk at most 1048576: NARROWER than '..Said'. Prove '..Said' where nothing that the law and all that it calls make is longer than what came in: it says more and counts as full. Else prove '..UptoSaid'. A law counts once. -/
mutual
def uptoBulk {H : Type} : DataW H → Nat
  | .lit (.string bytes) => bytes.length + 1
  | .lit _ => 1
  | .nil => 1
  | .ptr d => uptoBulk d + 1
  | .slice elems spare => uptoBulkAll elems + uptoBulkAll spare + 1
  | .agg parts => uptoBulkAll parts + 1
  | .iface _ d => uptoBulk d + 1
  | .map entries => uptoBulkEntries entries + 1
  | .held _ => 1
def uptoBulkAll {H : Type} : List (DataW H) → Nat
  | [] => 0
  | d :: r => uptoBulk d + uptoBulkAll r
def uptoBulkEntries {H : Type} : List (Lit × DataW H) → Nat
  | [] => 0
  | x :: r => uptoBulkEntry x + uptoBulkEntries r
def uptoBulkEntry {H : Type} : Lit × DataW H → Nat
  | (.string bytes, d) => bytes.length + uptoBulk d + 1
  | (_, d) => uptoBulk d + 1
 end
def uptoSmall : (H : Type) → List (DataW H) → Bool := fun _ ds => decide (uptoBulkAll ds ≤ 1048576)
def OpenSpec.upto (s : _root_.Go.ChangeSpec) : _root_.Go.OpenSpec := { _root_.Go.OpenSpec.ofChange s with cond := some uptoSmall }

/-- 'laws.FnExactEventPair', WHERE WHAT IT READS IS OF BULK AT MOST 1048576: true; the input reads as it did. -/
def fnExactEventPairUptoRow : OpenClaim := { program := "ytdbnmkffinhdjaagreat", sum := "6b42ab8aac8221b5fcf242870885fb49d6ac48caa78ed922b2fa546a57debc79", func := "loop.example/g00263/laws.FnExactEventPair", spec := "fnExactEventPair", unfollowed := true, recurses := true, apart := false, narrowed := true }
def FnExactEventPairUptoSaid : Prop := fnExactEventPairUptoRow.holds Tryz.pinned (OpenSpec.upto fnExactEventPairSpec)

/-- 'laws.FnExactDeliverPair', WHERE WHAT IT READS IS OF BULK AT MOST 1048576: true; the input reads as it did. -/
def fnExactDeliverPairUptoRow : OpenClaim := { program := "ytdbnmkffinhdjaagreat", sum := "6b42ab8aac8221b5fcf242870885fb49d6ac48caa78ed922b2fa546a57debc79", func := "loop.example/g00263/laws.FnExactDeliverPair", spec := "fnExactDeliverPair", unfollowed := true, recurses := true, apart := false, narrowed := true }
def FnExactDeliverPairUptoSaid : Prop := fnExactDeliverPairUptoRow.holds Tryz.pinned (OpenSpec.upto fnExactDeliverPairSpec)

end Rows
end Go.Proofs.YtdbnmkffinhdjaaGreat
