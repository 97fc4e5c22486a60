/-
  No cell of these rows narrows 'for every input' (looked for: loops, veiled, ifaces, maps, wideKeys, modest, calm, conditions, laid).
  DERIVED. THE GIVEN ROWS OF THIS SEAT. 6 by the template 'for every input the law returns true; each argument reads behind the call as it read before'; 0 by the template 'total and deterministic' (their statements: YtgjdjafldogecaaTotals.lean).
  GIVEN WITH THE SEED: the statements are not yours to turn. If you find one false, say at which input.
  Laid BY PROGRAM, IN A SANDBOX (cutbox-rows.mjs): the forced cells as the released guide's own fill.sh prints them over the translation 5ecc0f4d3cd5995e… (all of the seat's roots in one cut). By AI agents, Wed Nov 11 2026. No macro, syntax, notation, axiom, sorry.
-/
import Derived.Test.YtgjdjafldogecaaChecked
import GoSem.Claim
import GoSem.ClaimJoined
import GoSem.ClaimMapViews
import Derived.JoinedTies
import Derived.KernelRfl
namespace Go.Proofs.Ytgjdjafldogecaa
/- THE CELL 'sum', in the pinned program and in every row, IS THE sha256 OF THE DUMP (.gsa) THAT YtgjdjafldogecaaProg.lean LOADS. Nothing in Lean hashes anything: it is a label: what it is worth is what the hold of that sum in a sandbox is worth. -/
noncomputable def Try.pinned : Pinned := { name := "ytgjdjafldogecaa", sum := "5ecc0f4d3cd5995e962f211f1ef0a1e15cb141fb8a241aa5649376ef7d8113aa", checked := Try.checked }
namespace Rows
def none {H : Type} : Left H := { results := [], args := [] }

/-- 'laws.FnExactAttrsFault': WHATEVER THE INPUT: true; the input reads as it did. -/
def fnExactAttrsFaultSpec : ChangeSpec := { name := "fnExactAttrsFault", fn := fun _ => fun
  | [d] => { results := [.lit (.bool true)], args := [d] }
  | _ => none }
def fnExactAttrsFaultRow : OpenClaim := { program := "ytgjdjafldogecaa", sum := "5ecc0f4d3cd5995e962f211f1ef0a1e15cb141fb8a241aa5649376ef7d8113aa", func := "loop.example/g00263/laws.FnExactAttrsFault", spec := "fnExactAttrsFault", plainKeys := false, apart := false }
def FnExactAttrsFaultSaid : Prop := fnExactAttrsFaultRow.holds Try.pinned (OpenSpec.ofChange fnExactAttrsFaultSpec)

/-- ITS FALSE NEIGHBOUR: 'it returns false'. Refute it at one input. -/
def fnExactAttrsFaultWrong : ChangeSpec := { name := "fnExactAttrsFault", fn := fun _ => fun
  | [d] => { results := [.lit (.bool false)], args := [d] }
  | _ => none }
def FnExactAttrsFaultWrongFalsely : Prop := fnExactAttrsFaultRow.holds Try.pinned (OpenSpec.ofChange fnExactAttrsFaultWrong)

/-- 'laws.FnExactSameAttrs': WHATEVER THE INPUT: true; the input reads as it did. -/
def fnExactSameAttrsSpec : ChangeSpec := { name := "fnExactSameAttrs", fn := fun _ => fun
  | [d1, d2] => { results := [.lit (.bool true)], args := [d1, d2] }
  | _ => none }
def fnExactSameAttrsRow : OpenClaim := { program := "ytgjdjafldogecaa", sum := "5ecc0f4d3cd5995e962f211f1ef0a1e15cb141fb8a241aa5649376ef7d8113aa", func := "loop.example/g00263/laws.FnExactSameAttrs", spec := "fnExactSameAttrs", plainKeys := false, apart := false }
def FnExactSameAttrsSaid : Prop := fnExactSameAttrsRow.holds Try.pinned (OpenSpec.ofChange fnExactSameAttrsSpec)

/-- ITS FALSE NEIGHBOUR: 'it returns false'. Refute it at one input. -/
def fnExactSameAttrsWrong : ChangeSpec := { name := "fnExactSameAttrs", fn := fun _ => fun
  | [d1, d2] => { results := [.lit (.bool false)], args := [d1, d2] }
  | _ => none }
def FnExactSameAttrsWrongFalsely : Prop := fnExactSameAttrsRow.holds Try.pinned (OpenSpec.ofChange fnExactSameAttrsWrong)

/-- 'laws.FnExactUpdateFault': WHATEVER THE INPUT: true; the input reads as it did. -/
def fnExactUpdateFaultSpec : ChangeSpec := { name := "fnExactUpdateFault", fn := fun _ => fun
  | [d] => { results := [.lit (.bool true)], args := [d] }
  | _ => none }
def fnExactUpdateFaultRow : OpenClaim := { program := "ytgjdjafldogecaa", sum := "5ecc0f4d3cd5995e962f211f1ef0a1e15cb141fb8a241aa5649376ef7d8113aa", func := "loop.example/g00263/laws.FnExactUpdateFault", spec := "fnExactUpdateFault", plainKeys := false, apart := false }
def FnExactUpdateFaultSaid : Prop := fnExactUpdateFaultRow.holds Try.pinned (OpenSpec.ofChange fnExactUpdateFaultSpec)

/-- ITS FALSE NEIGHBOUR: 'it returns false'. Refute it at one input. -/
def fnExactUpdateFaultWrong : ChangeSpec := { name := "fnExactUpdateFault", fn := fun _ => fun
  | [d] => { results := [.lit (.bool false)], args := [d] }
  | _ => none }
def FnExactUpdateFaultWrongFalsely : Prop := fnExactUpdateFaultRow.holds Try.pinned (OpenSpec.ofChange fnExactUpdateFaultWrong)

/-- 'laws.FnExactPackUpdate': WHATEVER THE INPUT: true; the input reads as it did. -/
def fnExactPackUpdateSpec : ChangeSpec := { name := "fnExactPackUpdate", fn := fun _ => fun
  | [d] => { results := [.lit (.bool true)], args := [d] }
  | _ => none }
def fnExactPackUpdateRow : OpenClaim := { program := "ytgjdjafldogecaa", sum := "5ecc0f4d3cd5995e962f211f1ef0a1e15cb141fb8a241aa5649376ef7d8113aa", func := "loop.example/g00263/laws.FnExactPackUpdate", spec := "fnExactPackUpdate", plainKeys := false, apart := false }
def FnExactPackUpdateSaid : Prop := fnExactPackUpdateRow.holds Try.pinned (OpenSpec.ofChange fnExactPackUpdateSpec)

/-- ITS FALSE NEIGHBOUR: 'it returns false'. Refute it at one input. -/
def fnExactPackUpdateWrong : ChangeSpec := { name := "fnExactPackUpdate", fn := fun _ => fun
  | [d] => { results := [.lit (.bool false)], args := [d] }
  | _ => none }
def FnExactPackUpdateWrongFalsely : Prop := fnExactPackUpdateRow.holds Try.pinned (OpenSpec.ofChange fnExactPackUpdateWrong)

/-- 'laws.FnExactLongestFor': WHATEVER THE INPUT: true; the input reads as it did. -/
def fnExactLongestForSpec : ChangeSpec := { name := "fnExactLongestFor", fn := fun _ => fun
  | [d1, d2] => { results := [.lit (.bool true)], args := [d1, d2] }
  | _ => none }
def fnExactLongestForRow : OpenClaim := { program := "ytgjdjafldogecaa", sum := "5ecc0f4d3cd5995e962f211f1ef0a1e15cb141fb8a241aa5649376ef7d8113aa", func := "loop.example/g00263/laws.FnExactLongestFor", spec := "fnExactLongestFor", plainKeys := false, apart := false }
def FnExactLongestForSaid : Prop := fnExactLongestForRow.holds Try.pinned (OpenSpec.ofChange fnExactLongestForSpec)

/-- ITS FALSE NEIGHBOUR: 'it returns false'. Refute it at one input. -/
def fnExactLongestForWrong : ChangeSpec := { name := "fnExactLongestFor", fn := fun _ => fun
  | [d1, d2] => { results := [.lit (.bool false)], args := [d1, d2] }
  | _ => none }
def FnExactLongestForWrongFalsely : Prop := fnExactLongestForRow.holds Try.pinned (OpenSpec.ofChange fnExactLongestForWrong)

/-- 'laws.FnExactOrderPrefixes': WHATEVER THE INPUT: true; the input reads as it did. -/
def fnExactOrderPrefixesSpec : ChangeSpec := { name := "fnExactOrderPrefixes", fn := fun _ => fun
  | [d] => { results := [.lit (.bool true)], args := [d] }
  | _ => none }
def fnExactOrderPrefixesRow : OpenClaim := { program := "ytgjdjafldogecaa", sum := "5ecc0f4d3cd5995e962f211f1ef0a1e15cb141fb8a241aa5649376ef7d8113aa", func := "loop.example/g00263/laws.FnExactOrderPrefixes", spec := "fnExactOrderPrefixes", unfollowed := true, recurses := true, plainKeys := false, apart := false }
def FnExactOrderPrefixesSaid : Prop := fnExactOrderPrefixesRow.holds Try.pinned (OpenSpec.ofChange fnExactOrderPrefixesSpec)

/-- ITS FALSE NEIGHBOUR: 'it returns false'. Refute it at one input. -/
def fnExactOrderPrefixesWrong : ChangeSpec := { name := "fnExactOrderPrefixes", fn := fun _ => fun
  | [d] => { results := [.lit (.bool false)], args := [d] }
  | _ => none }
def FnExactOrderPrefixesWrongFalsely : Prop := fnExactOrderPrefixesRow.holds Try.pinned (OpenSpec.ofChange fnExactOrderPrefixesWrong)

/- THE SECOND FORM. 'bulk': how many values and letters a reading holds, each counted each time it is reached (what is shared counts as often as it is met; a slice's spare places count too). A statement '..UptoSaid' is the law's where the arguments, and the package variables that the reading takes, are together of bulk at most 1048576: NARROWER than '..Said'. Prove '..Said' where nothing that the law and all that it calls make is longer than what came in: it says more and counts as full. Else prove '..UptoSaid'. A law counts once. -/
mutual
def uptoBulk {H : Type} : DataW H → Nat
  | .lit (.string bytes) => bytes.length + 1
  | .lit _ => 1
  | .nil => 1
  | .ptr d => uptoBulk d + 1
  | .slice elems spare => uptoBulkAll elems + uptoBulkAll spare + 1
  | .agg parts => uptoBulkAll parts + 1
  | .iface _ d => uptoBulk d + 1
  | .map entries => uptoBulkEntries entries + 1
  | .held _ => 1
def uptoBulkAll {H : Type} : List (DataW H) → Nat
  | [] => 0
  | d :: r => uptoBulk d + uptoBulkAll r
def uptoBulkEntries {H : Type} : List (Lit × DataW H) → Nat
  | [] => 0
  | x :: r => uptoBulkEntry x + uptoBulkEntries r
def uptoBulkEntry {H : Type} : Lit × DataW H → Nat
  | (.string bytes, d) => bytes.length + uptoBulk d + 1
  | (_, d) => uptoBulk d + 1
 end
def uptoSmall : (H : Type) → List (DataW H) → Bool := fun _ ds => decide (uptoBulkAll ds ≤ 1048576)
def OpenSpec.upto (s : _root_.Go.ChangeSpec) : _root_.Go.OpenSpec := { _root_.Go.OpenSpec.ofChange s with cond := some uptoSmall }

/-- 'laws.FnExactAttrsFault', WHERE WHAT IT READS IS OF BULK AT MOST 1048576: true; the input reads as it did. -/
def fnExactAttrsFaultUptoRow : OpenClaim := { program := "ytgjdjafldogecaa", sum := "5ecc0f4d3cd5995e962f211f1ef0a1e15cb141fb8a241aa5649376ef7d8113aa", func := "loop.example/g00263/laws.FnExactAttrsFault", spec := "fnExactAttrsFault", plainKeys := false, apart := false, narrowed := true }
def FnExactAttrsFaultUptoSaid : Prop := fnExactAttrsFaultUptoRow.holds Try.pinned (OpenSpec.upto fnExactAttrsFaultSpec)

/-- 'laws.FnExactSameAttrs', WHERE WHAT IT READS IS OF BULK AT MOST 1048576: true; the input reads as it did. -/
def fnExactSameAttrsUptoRow : OpenClaim := { program := "ytgjdjafldogecaa", sum := "5ecc0f4d3cd5995e962f211f1ef0a1e15cb141fb8a241aa5649376ef7d8113aa", func := "loop.example/g00263/laws.FnExactSameAttrs", spec := "fnExactSameAttrs", plainKeys := false, apart := false, narrowed := true }
def FnExactSameAttrsUptoSaid : Prop := fnExactSameAttrsUptoRow.holds Try.pinned (OpenSpec.upto fnExactSameAttrsSpec)

/-- 'laws.FnExactUpdateFault', WHERE WHAT IT READS IS OF BULK AT MOST 1048576: true; the input reads as it did. -/
def fnExactUpdateFaultUptoRow : OpenClaim := { program := "ytgjdjafldogecaa", sum := "5ecc0f4d3cd5995e962f211f1ef0a1e15cb141fb8a241aa5649376ef7d8113aa", func := "loop.example/g00263/laws.FnExactUpdateFault", spec := "fnExactUpdateFault", plainKeys := false, apart := false, narrowed := true }
def FnExactUpdateFaultUptoSaid : Prop := fnExactUpdateFaultUptoRow.holds Try.pinned (OpenSpec.upto fnExactUpdateFaultSpec)

/-- 'laws.FnExactPackUpdate', WHERE WHAT IT READS IS OF BULK AT MOST 1048576: true; the input reads as it did. -/
def fnExactPackUpdateUptoRow : OpenClaim := { program := "ytgjdjafldogecaa", sum := "5ecc0f4d3cd5995e962f211f1ef0a1e15cb141fb8a241aa5649376ef7d8113aa", func := "loop.example/g00263/laws.FnExactPackUpdate", spec := "fnExactPackUpdate", plainKeys := false, apart := false, narrowed := true }
def FnExactPackUpdateUptoSaid : Prop := fnExactPackUpdateUptoRow.holds Try.pinned (OpenSpec.upto fnExactPackUpdateSpec)

/-- 'laws.FnExactLongestFor', WHERE WHAT IT READS IS OF BULK AT MOST 1048576: true; the input reads as it did. -/
def fnExactLongestForUptoRow : OpenClaim := { program := "ytgjdjafldogecaa", sum := "5ecc0f4d3cd5995e962f211f1ef0a1e15cb141fb8a241aa5649376ef7d8113aa", func := "loop.example/g00263/laws.FnExactLongestFor", spec := "fnExactLongestFor", plainKeys := false, apart := false, narrowed := true }
def FnExactLongestForUptoSaid : Prop := fnExactLongestForUptoRow.holds Try.pinned (OpenSpec.upto fnExactLongestForSpec)

/-- 'laws.FnExactOrderPrefixes', WHERE WHAT IT READS IS OF BULK AT MOST 1048576: true; the input reads as it did. -/
def fnExactOrderPrefixesUptoRow : OpenClaim := { program := "ytgjdjafldogecaa", sum := "5ecc0f4d3cd5995e962f211f1ef0a1e15cb141fb8a241aa5649376ef7d8113aa", func := "loop.example/g00263/laws.FnExactOrderPrefixes", spec := "fnExactOrderPrefixes", unfollowed := true, recurses := true, plainKeys := false, apart := false, narrowed := true }
def FnExactOrderPrefixesUptoSaid : Prop := fnExactOrderPrefixesUptoRow.holds Try.pinned (OpenSpec.upto fnExactOrderPrefixesSpec)

end Rows
end Go.Proofs.Ytgjdjafldogecaa
