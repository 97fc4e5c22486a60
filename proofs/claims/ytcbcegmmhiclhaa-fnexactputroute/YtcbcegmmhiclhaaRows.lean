/-
  No cell of these rows narrows 'for every input' (looked for: loops, veiled, ifaces, maps, wideKeys, modest, calm, conditions, laid).
  DERIVED. THE GIVEN ROWS OF THIS SEAT. 5 by the template 'for every input the law returns true; each argument reads behind the call as it read before'; 0 by the template 'total and deterministic' (their statements: YtcbcegmmhiclhaaTotals.lean).
  GIVEN WITH THE SEED: the statements are not yours to turn. If you find one false, say at which input.
  Laid BY PROGRAM, IN A SANDBOX (cutbox-rows.mjs): the forced cells as the released guide's own fill.sh prints them over the translation 374a2f2563510189… (all of the seat's roots in one cut). By AI agents, Wed Nov 11 2026. No macro, syntax, notation, axiom, sorry.
-/
import Derived.Test.YtcbcegmmhiclhaaChecked
import GoSem.Claim
import GoSem.ClaimJoined
import GoSem.ClaimMapViews
import Derived.JoinedTies
import Derived.KernelRfl
namespace Go.Proofs.Ytcbcegmmhiclhaa
/- THE CELL 'sum', in the pinned program and in every row, IS THE sha256 OF THE DUMP (.gsa) THAT YtcbcegmmhiclhaaProg.lean LOADS. Nothing in Lean hashes anything: it is a label: what it is worth is what the hold of that sum in a sandbox is worth. -/
noncomputable def Try.pinned : Pinned := { name := "ytcbcegmmhiclhaa", sum := "374a2f2563510189bc8c5d69cefb1890462fd11927ec51b5bdb64073c0ae01ce", checked := Try.checked }
namespace Rows
def none {H : Type} : Left H := { results := [], args := [] }

/-- 'laws.FnExactRibFault': WHATEVER THE INPUT: true; the input reads as it did. -/
def fnExactRibFaultSpec : ChangeSpec := { name := "fnExactRibFault", fn := fun _ => fun
  | [d] => { results := [.lit (.bool true)], args := [d] }
  | _ => none }
def fnExactRibFaultRow : OpenClaim := { program := "ytcbcegmmhiclhaa", sum := "374a2f2563510189bc8c5d69cefb1890462fd11927ec51b5bdb64073c0ae01ce", func := "loop.example/g00263/laws.FnExactRibFault", spec := "fnExactRibFault", apart := false }
def FnExactRibFaultSaid : Prop := fnExactRibFaultRow.holds Try.pinned (OpenSpec.ofChange fnExactRibFaultSpec)

/-- ITS FALSE NEIGHBOUR: 'it returns false'. Refute it at one input. -/
def fnExactRibFaultWrong : ChangeSpec := { name := "fnExactRibFault", fn := fun _ => fun
  | [d] => { results := [.lit (.bool false)], args := [d] }
  | _ => none }
def FnExactRibFaultWrongFalsely : Prop := fnExactRibFaultRow.holds Try.pinned (OpenSpec.ofChange fnExactRibFaultWrong)

/-- 'laws.FnExactDropRoute': WHATEVER THE INPUT: true; the input reads as it did. -/
def fnExactDropRouteSpec : ChangeSpec := { name := "fnExactDropRoute", fn := fun _ => fun
  | [d1, d2, d3] => { results := [.lit (.bool true)], args := [d1, d2, d3] }
  | _ => none }
def fnExactDropRouteRow : OpenClaim := { program := "ytcbcegmmhiclhaa", sum := "374a2f2563510189bc8c5d69cefb1890462fd11927ec51b5bdb64073c0ae01ce", func := "loop.example/g00263/laws.FnExactDropRoute", spec := "fnExactDropRoute", unfollowed := true, recurses := true, apart := false }
def FnExactDropRouteSaid : Prop := fnExactDropRouteRow.holds Try.pinned (OpenSpec.ofChange fnExactDropRouteSpec)

/-- ITS FALSE NEIGHBOUR: 'it returns false'. Refute it at one input. -/
def fnExactDropRouteWrong : ChangeSpec := { name := "fnExactDropRoute", fn := fun _ => fun
  | [d1, d2, d3] => { results := [.lit (.bool false)], args := [d1, d2, d3] }
  | _ => none }
def FnExactDropRouteWrongFalsely : Prop := fnExactDropRouteRow.holds Try.pinned (OpenSpec.ofChange fnExactDropRouteWrong)

/-- 'laws.FnExactDropPeer': WHATEVER THE INPUT: true; the input reads as it did. -/
def fnExactDropPeerSpec : ChangeSpec := { name := "fnExactDropPeer", fn := fun _ => fun
  | [d1, d2] => { results := [.lit (.bool true)], args := [d1, d2] }
  | _ => none }
def fnExactDropPeerRow : OpenClaim := { program := "ytcbcegmmhiclhaa", sum := "374a2f2563510189bc8c5d69cefb1890462fd11927ec51b5bdb64073c0ae01ce", func := "loop.example/g00263/laws.FnExactDropPeer", spec := "fnExactDropPeer", unfollowed := true, recurses := true, apart := false }
def FnExactDropPeerSaid : Prop := fnExactDropPeerRow.holds Try.pinned (OpenSpec.ofChange fnExactDropPeerSpec)

/-- ITS FALSE NEIGHBOUR: 'it returns false'. Refute it at one input. -/
def fnExactDropPeerWrong : ChangeSpec := { name := "fnExactDropPeer", fn := fun _ => fun
  | [d1, d2] => { results := [.lit (.bool false)], args := [d1, d2] }
  | _ => none }
def FnExactDropPeerWrongFalsely : Prop := fnExactDropPeerRow.holds Try.pinned (OpenSpec.ofChange fnExactDropPeerWrong)

/-- 'laws.FnExactBetterRoute': WHATEVER THE INPUT: true; the input reads as it did. -/
def fnExactBetterRouteSpec : ChangeSpec := { name := "fnExactBetterRoute", fn := fun _ => fun
  | [d1, d2] => { results := [.lit (.bool true)], args := [d1, d2] }
  | _ => none }
def fnExactBetterRouteRow : OpenClaim := { program := "ytcbcegmmhiclhaa", sum := "374a2f2563510189bc8c5d69cefb1890462fd11927ec51b5bdb64073c0ae01ce", func := "loop.example/g00263/laws.FnExactBetterRoute", spec := "fnExactBetterRoute", apart := false }
def FnExactBetterRouteSaid : Prop := fnExactBetterRouteRow.holds Try.pinned (OpenSpec.ofChange fnExactBetterRouteSpec)

/-- ITS FALSE NEIGHBOUR: 'it returns false'. Refute it at one input. -/
def fnExactBetterRouteWrong : ChangeSpec := { name := "fnExactBetterRoute", fn := fun _ => fun
  | [d1, d2] => { results := [.lit (.bool false)], args := [d1, d2] }
  | _ => none }
def FnExactBetterRouteWrongFalsely : Prop := fnExactBetterRouteRow.holds Try.pinned (OpenSpec.ofChange fnExactBetterRouteWrong)

/-- 'laws.FnExactPutRoute': WHATEVER THE INPUT: true; the input reads as it did. -/
def fnExactPutRouteSpec : ChangeSpec := { name := "fnExactPutRoute", fn := fun _ => fun
  | [d1, d2] => { results := [.lit (.bool true)], args := [d1, d2] }
  | _ => none }
def fnExactPutRouteRow : OpenClaim := { program := "ytcbcegmmhiclhaa", sum := "374a2f2563510189bc8c5d69cefb1890462fd11927ec51b5bdb64073c0ae01ce", func := "loop.example/g00263/laws.FnExactPutRoute", spec := "fnExactPutRoute", inPlace := ["slices.overlaps[loop.example/g00263/impl.Route]"], unfollowed := true, recurses := true, apart := false }
def FnExactPutRouteSaid : Prop := fnExactPutRouteRow.holds Try.pinned (OpenSpec.ofChange fnExactPutRouteSpec)

/-- ITS FALSE NEIGHBOUR: 'it returns false'. Refute it at one input. -/
def fnExactPutRouteWrong : ChangeSpec := { name := "fnExactPutRoute", fn := fun _ => fun
  | [d1, d2] => { results := [.lit (.bool false)], args := [d1, d2] }
  | _ => none }
def FnExactPutRouteWrongFalsely : Prop := fnExactPutRouteRow.holds Try.pinned (OpenSpec.ofChange fnExactPutRouteWrong)

/- THE SECOND FORM. 'bulk': how many values and letters a reading holds, each counted each time it is reached (what is shared counts as often as it is met; a slice's spare places count too). A statement '..UptoSaid' is the law's where the arguments, and the package variables that the reading takes, are together of bulk at most 1048576: NARROWER than '..Said'. Prove '..Said' where nothing that the law and all that it calls make is longer than what came in: it says more and counts as full. Else prove '..UptoSaid'. A law counts once. -/
mutual
def uptoBulk {H : Type} : DataW H → Nat
  | .lit (.string bytes) => bytes.length + 1
  | .lit _ => 1
  | .nil => 1
  | .ptr d => uptoBulk d + 1
  | .slice elems spare => uptoBulkAll elems + uptoBulkAll spare + 1
  | .agg parts => uptoBulkAll parts + 1
  | .iface _ d => uptoBulk d + 1
  | .map entries => uptoBulkEntries entries + 1
  | .held _ => 1
def uptoBulkAll {H : Type} : List (DataW H) → Nat
  | [] => 0
  | d :: r => uptoBulk d + uptoBulkAll r
def uptoBulkEntries {H : Type} : List (Lit × DataW H) → Nat
  | [] => 0
  | x :: r => uptoBulkEntry x + uptoBulkEntries r
def uptoBulkEntry {H : Type} : Lit × DataW H → Nat
  | (.string bytes, d) => bytes.length + uptoBulk d + 1
  | (_, d) => uptoBulk d + 1
 end
def uptoSmall : (H : Type) → List (DataW H) → Bool := fun _ ds => decide (uptoBulkAll ds ≤ 1048576)
def OpenSpec.upto (s : _root_.Go.ChangeSpec) : _root_.Go.OpenSpec := { _root_.Go.OpenSpec.ofChange s with cond := some uptoSmall }

/-- 'laws.FnExactRibFault', WHERE WHAT IT READS IS OF BULK AT MOST 1048576: true; the input reads as it did. -/
def fnExactRibFaultUptoRow : OpenClaim := { program := "ytcbcegmmhiclhaa", sum := "374a2f2563510189bc8c5d69cefb1890462fd11927ec51b5bdb64073c0ae01ce", func := "loop.example/g00263/laws.FnExactRibFault", spec := "fnExactRibFault", apart := false, narrowed := true }
def FnExactRibFaultUptoSaid : Prop := fnExactRibFaultUptoRow.holds Try.pinned (OpenSpec.upto fnExactRibFaultSpec)

/-- 'laws.FnExactDropRoute', WHERE WHAT IT READS IS OF BULK AT MOST 1048576: true; the input reads as it did. -/
def fnExactDropRouteUptoRow : OpenClaim := { program := "ytcbcegmmhiclhaa", sum := "374a2f2563510189bc8c5d69cefb1890462fd11927ec51b5bdb64073c0ae01ce", func := "loop.example/g00263/laws.FnExactDropRoute", spec := "fnExactDropRoute", unfollowed := true, recurses := true, apart := false, narrowed := true }
def FnExactDropRouteUptoSaid : Prop := fnExactDropRouteUptoRow.holds Try.pinned (OpenSpec.upto fnExactDropRouteSpec)

/-- 'laws.FnExactDropPeer', WHERE WHAT IT READS IS OF BULK AT MOST 1048576: true; the input reads as it did. -/
def fnExactDropPeerUptoRow : OpenClaim := { program := "ytcbcegmmhiclhaa", sum := "374a2f2563510189bc8c5d69cefb1890462fd11927ec51b5bdb64073c0ae01ce", func := "loop.example/g00263/laws.FnExactDropPeer", spec := "fnExactDropPeer", unfollowed := true, recurses := true, apart := false, narrowed := true }
def FnExactDropPeerUptoSaid : Prop := fnExactDropPeerUptoRow.holds Try.pinned (OpenSpec.upto fnExactDropPeerSpec)

/-- 'laws.FnExactBetterRoute', WHERE WHAT IT READS IS OF BULK AT MOST 1048576: true; the input reads as it did. -/
def fnExactBetterRouteUptoRow : OpenClaim := { program := "ytcbcegmmhiclhaa", sum := "374a2f2563510189bc8c5d69cefb1890462fd11927ec51b5bdb64073c0ae01ce", func := "loop.example/g00263/laws.FnExactBetterRoute", spec := "fnExactBetterRoute", apart := false, narrowed := true }
def FnExactBetterRouteUptoSaid : Prop := fnExactBetterRouteUptoRow.holds Try.pinned (OpenSpec.upto fnExactBetterRouteSpec)

/-- 'laws.FnExactPutRoute', WHERE WHAT IT READS IS OF BULK AT MOST 1048576: true; the input reads as it did. -/
def fnExactPutRouteUptoRow : OpenClaim := { program := "ytcbcegmmhiclhaa", sum := "374a2f2563510189bc8c5d69cefb1890462fd11927ec51b5bdb64073c0ae01ce", func := "loop.example/g00263/laws.FnExactPutRoute", spec := "fnExactPutRoute", inPlace := ["slices.overlaps[loop.example/g00263/impl.Route]"], unfollowed := true, recurses := true, apart := false, narrowed := true }
def FnExactPutRouteUptoSaid : Prop := fnExactPutRouteUptoRow.holds Try.pinned (OpenSpec.upto fnExactPutRouteSpec)

end Rows
end Go.Proofs.Ytcbcegmmhiclhaa
