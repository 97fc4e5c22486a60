/-
  No cell of these rows narrows 'for every input' (looked for: loops, veiled, ifaces, maps, wideKeys, modest, calm, conditions, laid).
  DERIVED. THE GIVEN ROWS OF THIS SEAT. 5 by the template 'for every input the law returns true; each argument reads behind the call as it read before'; 0 by the template 'total and deterministic' (their statements: YtdmgilekacplkadTotals.lean).
  GIVEN WITH THE SEED: the statements are not yours to turn. If you find one false, say at which input.
  Laid BY PROGRAM, IN A SANDBOX (cutbox-rows.mjs): the forced cells as the released guide's own fill.sh prints them over the translation 5a17e0c76210aa0c… (all of the seat's roots in one cut). By AI agents, Wed Nov 11 2026. No macro, syntax, notation, axiom, sorry.
-/
import Derived.Test.YtdmgilekacplkadChecked
import GoSem.Claim
import GoSem.ClaimJoined
import GoSem.ClaimMapViews
import Derived.JoinedTies
import Derived.KernelRfl
namespace Go.Proofs.Ytdmgilekacplkad
/- THE CELL 'sum', in the pinned program and in every row, IS THE sha256 OF THE DUMP (.gsa) THAT YtdmgilekacplkadProg.lean LOADS. Nothing in Lean hashes anything: it is a label: what it is worth is what the hold of that sum in a sandbox is worth. -/
noncomputable def Try.pinned : Pinned := { name := "ytdmgilekacplkad", sum := "5a17e0c76210aa0c60a95b71834e4d0476e64f485cd087f102b103834be269b0", checked := Try.checked }
namespace Rows
def none {H : Type} : Left H := { results := [], args := [] }

/-- 'laws.FnExactAttrsFault': WHATEVER THE INPUT: true; the input reads as it did. -/
def fnExactAttrsFaultSpec : ChangeSpec := { name := "fnExactAttrsFault", fn := fun _ => fun
  | [d] => { results := [.lit (.bool true)], args := [d] }
  | _ => none }
def fnExactAttrsFaultRow : OpenClaim := { program := "ytdmgilekacplkad", sum := "5a17e0c76210aa0c60a95b71834e4d0476e64f485cd087f102b103834be269b0", func := "loop.example/g00263/laws.FnExactAttrsFault", spec := "fnExactAttrsFault", apart := false }
def FnExactAttrsFaultSaid : Prop := fnExactAttrsFaultRow.holds Try.pinned (OpenSpec.ofChange fnExactAttrsFaultSpec)

/-- ITS FALSE NEIGHBOUR: 'it returns false'. Refute it at one input. -/
def fnExactAttrsFaultWrong : ChangeSpec := { name := "fnExactAttrsFault", fn := fun _ => fun
  | [d] => { results := [.lit (.bool false)], args := [d] }
  | _ => none }
def FnExactAttrsFaultWrongFalsely : Prop := fnExactAttrsFaultRow.holds Try.pinned (OpenSpec.ofChange fnExactAttrsFaultWrong)

/-- 'laws.FnExactUpdateFault': WHATEVER THE INPUT: true; the input reads as it did. -/
def fnExactUpdateFaultSpec : ChangeSpec := { name := "fnExactUpdateFault", fn := fun _ => fun
  | [d] => { results := [.lit (.bool true)], args := [d] }
  | _ => none }
def fnExactUpdateFaultRow : OpenClaim := { program := "ytdmgilekacplkad", sum := "5a17e0c76210aa0c60a95b71834e4d0476e64f485cd087f102b103834be269b0", func := "loop.example/g00263/laws.FnExactUpdateFault", spec := "fnExactUpdateFault", apart := false }
def FnExactUpdateFaultSaid : Prop := fnExactUpdateFaultRow.holds Try.pinned (OpenSpec.ofChange fnExactUpdateFaultSpec)

/-- ITS FALSE NEIGHBOUR: 'it returns false'. Refute it at one input. -/
def fnExactUpdateFaultWrong : ChangeSpec := { name := "fnExactUpdateFault", fn := fun _ => fun
  | [d] => { results := [.lit (.bool false)], args := [d] }
  | _ => none }
def FnExactUpdateFaultWrongFalsely : Prop := fnExactUpdateFaultRow.holds Try.pinned (OpenSpec.ofChange fnExactUpdateFaultWrong)

/-- 'laws.FnExactPackUpdate': WHATEVER THE INPUT: true; the input reads as it did. -/
def fnExactPackUpdateSpec : ChangeSpec := { name := "fnExactPackUpdate", fn := fun _ => fun
  | [d] => { results := [.lit (.bool true)], args := [d] }
  | _ => none }
def fnExactPackUpdateRow : OpenClaim := { program := "ytdmgilekacplkad", sum := "5a17e0c76210aa0c60a95b71834e4d0476e64f485cd087f102b103834be269b0", func := "loop.example/g00263/laws.FnExactPackUpdate", spec := "fnExactPackUpdate", apart := false }
def FnExactPackUpdateSaid : Prop := fnExactPackUpdateRow.holds Try.pinned (OpenSpec.ofChange fnExactPackUpdateSpec)

/-- ITS FALSE NEIGHBOUR: 'it returns false'. Refute it at one input. -/
def fnExactPackUpdateWrong : ChangeSpec := { name := "fnExactPackUpdate", fn := fun _ => fun
  | [d] => { results := [.lit (.bool false)], args := [d] }
  | _ => none }
def FnExactPackUpdateWrongFalsely : Prop := fnExactPackUpdateRow.holds Try.pinned (OpenSpec.ofChange fnExactPackUpdateWrong)

/-- 'laws.FnExactParseUpdate': WHATEVER THE INPUT: true; the input reads as it did. -/
def fnExactParseUpdateSpec : ChangeSpec := { name := "fnExactParseUpdate", fn := fun _ => fun
  | [d] => { results := [.lit (.bool true)], args := [d] }
  | _ => none }
def fnExactParseUpdateRow : OpenClaim := { program := "ytdmgilekacplkad", sum := "5a17e0c76210aa0c60a95b71834e4d0476e64f485cd087f102b103834be269b0", func := "loop.example/g00263/laws.FnExactParseUpdate", spec := "fnExactParseUpdate", unfollowed := true, recurses := true, apart := false }
def FnExactParseUpdateSaid : Prop := fnExactParseUpdateRow.holds Try.pinned (OpenSpec.ofChange fnExactParseUpdateSpec)

/-- ITS FALSE NEIGHBOUR: 'it returns false'. Refute it at one input. -/
def fnExactParseUpdateWrong : ChangeSpec := { name := "fnExactParseUpdate", fn := fun _ => fun
  | [d] => { results := [.lit (.bool false)], args := [d] }
  | _ => none }
def FnExactParseUpdateWrongFalsely : Prop := fnExactParseUpdateRow.holds Try.pinned (OpenSpec.ofChange fnExactParseUpdateWrong)

/-- 'laws.FnExactSameAttrs': WHATEVER THE INPUT: true; the input reads as it did. -/
def fnExactSameAttrsSpec : ChangeSpec := { name := "fnExactSameAttrs", fn := fun _ => fun
  | [d1, d2] => { results := [.lit (.bool true)], args := [d1, d2] }
  | _ => none }
def fnExactSameAttrsRow : OpenClaim := { program := "ytdmgilekacplkad", sum := "5a17e0c76210aa0c60a95b71834e4d0476e64f485cd087f102b103834be269b0", func := "loop.example/g00263/laws.FnExactSameAttrs", spec := "fnExactSameAttrs", apart := false }
def FnExactSameAttrsSaid : Prop := fnExactSameAttrsRow.holds Try.pinned (OpenSpec.ofChange fnExactSameAttrsSpec)

/-- ITS FALSE NEIGHBOUR: 'it returns false'. Refute it at one input. -/
def fnExactSameAttrsWrong : ChangeSpec := { name := "fnExactSameAttrs", fn := fun _ => fun
  | [d1, d2] => { results := [.lit (.bool false)], args := [d1, d2] }
  | _ => none }
def FnExactSameAttrsWrongFalsely : Prop := fnExactSameAttrsRow.holds Try.pinned (OpenSpec.ofChange fnExactSameAttrsWrong)

/- THE SECOND FORM. 'bulk': how many values and letters a reading holds, each counted each time it is reached (what is shared counts as often as it is met; a slice's spare places count too). A statement '..UptoSaid' is the law's where the arguments, and the package variables that the reading takes, are together of bulk at most 1048576: NARROWER than '..Said'. Prove '..Said' where nothing that the law and all that it calls make is longer than what came in: it says more and counts as full. Else prove '..UptoSaid'. A law counts once. -/
mutual
def uptoBulk {H : Type} : DataW H → Nat
  | .lit (.string bytes) => bytes.length + 1
  | .lit _ => 1
  | .nil => 1
  | .ptr d => uptoBulk d + 1
  | .slice elems spare => uptoBulkAll elems + uptoBulkAll spare + 1
  | .agg parts => uptoBulkAll parts + 1
  | .iface _ d => uptoBulk d + 1
  | .map entries => uptoBulkEntries entries + 1
  | .held _ => 1
def uptoBulkAll {H : Type} : List (DataW H) → Nat
  | [] => 0
  | d :: r => uptoBulk d + uptoBulkAll r
def uptoBulkEntries {H : Type} : List (Lit × DataW H) → Nat
  | [] => 0
  | x :: r => uptoBulkEntry x + uptoBulkEntries r
def uptoBulkEntry {H : Type} : Lit × DataW H → Nat
  | (.string bytes, d) => bytes.length + uptoBulk d + 1
  | (_, d) => uptoBulk d + 1
 end
def uptoSmall : (H : Type) → List (DataW H) → Bool := fun _ ds => decide (uptoBulkAll ds ≤ 1048576)
def OpenSpec.upto (s : _root_.Go.ChangeSpec) : _root_.Go.OpenSpec := { _root_.Go.OpenSpec.ofChange s with cond := some uptoSmall }

/-- 'laws.FnExactAttrsFault', WHERE WHAT IT READS IS OF BULK AT MOST 1048576: true; the input reads as it did. -/
def fnExactAttrsFaultUptoRow : OpenClaim := { program := "ytdmgilekacplkad", sum := "5a17e0c76210aa0c60a95b71834e4d0476e64f485cd087f102b103834be269b0", func := "loop.example/g00263/laws.FnExactAttrsFault", spec := "fnExactAttrsFault", apart := false, narrowed := true }
def FnExactAttrsFaultUptoSaid : Prop := fnExactAttrsFaultUptoRow.holds Try.pinned (OpenSpec.upto fnExactAttrsFaultSpec)

/-- 'laws.FnExactUpdateFault', WHERE WHAT IT READS IS OF BULK AT MOST 1048576: true; the input reads as it did. -/
def fnExactUpdateFaultUptoRow : OpenClaim := { program := "ytdmgilekacplkad", sum := "5a17e0c76210aa0c60a95b71834e4d0476e64f485cd087f102b103834be269b0", func := "loop.example/g00263/laws.FnExactUpdateFault", spec := "fnExactUpdateFault", apart := false, narrowed := true }
def FnExactUpdateFaultUptoSaid : Prop := fnExactUpdateFaultUptoRow.holds Try.pinned (OpenSpec.upto fnExactUpdateFaultSpec)

/-- 'laws.FnExactPackUpdate', WHERE WHAT IT READS IS OF BULK AT MOST 1048576: true; the input reads as it did. -/
def fnExactPackUpdateUptoRow : OpenClaim := { program := "ytdmgilekacplkad", sum := "5a17e0c76210aa0c60a95b71834e4d0476e64f485cd087f102b103834be269b0", func := "loop.example/g00263/laws.FnExactPackUpdate", spec := "fnExactPackUpdate", apart := false, narrowed := true }
def FnExactPackUpdateUptoSaid : Prop := fnExactPackUpdateUptoRow.holds Try.pinned (OpenSpec.upto fnExactPackUpdateSpec)

/-- 'laws.FnExactParseUpdate', WHERE WHAT IT READS IS OF BULK AT MOST 1048576: true; the input reads as it did. -/
def fnExactParseUpdateUptoRow : OpenClaim := { program := "ytdmgilekacplkad", sum := "5a17e0c76210aa0c60a95b71834e4d0476e64f485cd087f102b103834be269b0", func := "loop.example/g00263/laws.FnExactParseUpdate", spec := "fnExactParseUpdate", unfollowed := true, recurses := true, apart := false, narrowed := true }
def FnExactParseUpdateUptoSaid : Prop := fnExactParseUpdateUptoRow.holds Try.pinned (OpenSpec.upto fnExactParseUpdateSpec)

/-- 'laws.FnExactSameAttrs', WHERE WHAT IT READS IS OF BULK AT MOST 1048576: true; the input reads as it did. -/
def fnExactSameAttrsUptoRow : OpenClaim := { program := "ytdmgilekacplkad", sum := "5a17e0c76210aa0c60a95b71834e4d0476e64f485cd087f102b103834be269b0", func := "loop.example/g00263/laws.FnExactSameAttrs", spec := "fnExactSameAttrs", apart := false, narrowed := true }
def FnExactSameAttrsUptoSaid : Prop := fnExactSameAttrsUptoRow.holds Try.pinned (OpenSpec.upto fnExactSameAttrsSpec)

end Rows
end Go.Proofs.Ytdmgilekacplkad
