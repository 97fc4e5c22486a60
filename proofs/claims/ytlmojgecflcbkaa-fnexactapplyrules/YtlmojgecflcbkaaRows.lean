/-
  No cell of these rows narrows 'for every input' (looked for: loops, veiled, ifaces, maps, wideKeys, modest, calm, conditions, laid).
  DERIVED. THE GIVEN ROWS OF THIS SEAT. 6 by the template 'for every input the law returns true; each argument reads behind the call as it read before'; 0 by the template 'total and deterministic' (their statements: YtlmojgecflcbkaaTotals.lean).
  GIVEN WITH THE SEED: the statements are not yours to turn. If you find one false, say at which input.
  Laid BY PROGRAM, IN A SANDBOX (cutbox-rows.mjs): the forced cells as the released guide's own fill.sh prints them over the translation 5b7d968fd1204bd2… (all of the seat's roots in one cut). By AI agents, Wed Nov 11 2026. No macro, syntax, notation, axiom, sorry.
-/
import Derived.Test.YtlmojgecflcbkaaChecked
import GoSem.Claim
import GoSem.ClaimJoined
import GoSem.ClaimMapViews
import Derived.JoinedTies
import Derived.KernelRfl
namespace Go.Proofs.Ytlmojgecflcbkaa
/- THE CELL 'sum', in the pinned program and in every row, IS THE sha256 OF THE DUMP (.gsa) THAT YtlmojgecflcbkaaProg.lean LOADS. Nothing in Lean hashes anything: it is a label: what it is worth is what the hold of that sum in a sandbox is worth. -/
noncomputable def Try.pinned : Pinned := { name := "ytlmojgecflcbkaa", sum := "5b7d968fd1204bd2daf78231f1109efd17c765317ba48a0332cf141b98e86bec", checked := Try.checked }
namespace Rows
def none {H : Type} : Left H := { results := [], args := [] }

/-- 'laws.FnExactRuleFault': WHATEVER THE INPUT: true; the input reads as it did. -/
def fnExactRuleFaultSpec : ChangeSpec := { name := "fnExactRuleFault", fn := fun _ => fun
  | [d] => { results := [.lit (.bool true)], args := [d] }
  | _ => none }
def fnExactRuleFaultRow : OpenClaim := { program := "ytlmojgecflcbkaa", sum := "5b7d968fd1204bd2daf78231f1109efd17c765317ba48a0332cf141b98e86bec", func := "loop.example/g00263/laws.FnExactRuleFault", spec := "fnExactRuleFault", apart := false }
def FnExactRuleFaultSaid : Prop := fnExactRuleFaultRow.holds Try.pinned (OpenSpec.ofChange fnExactRuleFaultSpec)

/-- ITS FALSE NEIGHBOUR: 'it returns false'. Refute it at one input. -/
def fnExactRuleFaultWrong : ChangeSpec := { name := "fnExactRuleFault", fn := fun _ => fun
  | [d] => { results := [.lit (.bool false)], args := [d] }
  | _ => none }
def FnExactRuleFaultWrongFalsely : Prop := fnExactRuleFaultRow.holds Try.pinned (OpenSpec.ofChange fnExactRuleFaultWrong)

/-- 'laws.FnExactRulesFault': WHATEVER THE INPUT: true; the input reads as it did. -/
def fnExactRulesFaultSpec : ChangeSpec := { name := "fnExactRulesFault", fn := fun _ => fun
  | [d] => { results := [.lit (.bool true)], args := [d] }
  | _ => none }
def fnExactRulesFaultRow : OpenClaim := { program := "ytlmojgecflcbkaa", sum := "5b7d968fd1204bd2daf78231f1109efd17c765317ba48a0332cf141b98e86bec", func := "loop.example/g00263/laws.FnExactRulesFault", spec := "fnExactRulesFault", apart := false }
def FnExactRulesFaultSaid : Prop := fnExactRulesFaultRow.holds Try.pinned (OpenSpec.ofChange fnExactRulesFaultSpec)

/-- ITS FALSE NEIGHBOUR: 'it returns false'. Refute it at one input. -/
def fnExactRulesFaultWrong : ChangeSpec := { name := "fnExactRulesFault", fn := fun _ => fun
  | [d] => { results := [.lit (.bool false)], args := [d] }
  | _ => none }
def FnExactRulesFaultWrongFalsely : Prop := fnExactRulesFaultRow.holds Try.pinned (OpenSpec.ofChange fnExactRulesFaultWrong)

/-- 'laws.FnExactRuleMatches': WHATEVER THE INPUT: true; the input reads as it did. -/
def fnExactRuleMatchesSpec : ChangeSpec := { name := "fnExactRuleMatches", fn := fun _ => fun
  | [d1, d2, d3] => { results := [.lit (.bool true)], args := [d1, d2, d3] }
  | _ => none }
def fnExactRuleMatchesRow : OpenClaim := { program := "ytlmojgecflcbkaa", sum := "5b7d968fd1204bd2daf78231f1109efd17c765317ba48a0332cf141b98e86bec", func := "loop.example/g00263/laws.FnExactRuleMatches", spec := "fnExactRuleMatches", unfollowed := true, recurses := true, apart := false }
def FnExactRuleMatchesSaid : Prop := fnExactRuleMatchesRow.holds Try.pinned (OpenSpec.ofChange fnExactRuleMatchesSpec)

/-- ITS FALSE NEIGHBOUR: 'it returns false'. Refute it at one input. -/
def fnExactRuleMatchesWrong : ChangeSpec := { name := "fnExactRuleMatches", fn := fun _ => fun
  | [d1, d2, d3] => { results := [.lit (.bool false)], args := [d1, d2, d3] }
  | _ => none }
def FnExactRuleMatchesWrongFalsely : Prop := fnExactRuleMatchesRow.holds Try.pinned (OpenSpec.ofChange fnExactRuleMatchesWrong)

/-- 'laws.FnExactApplyRules': WHATEVER THE INPUT: true; the input reads as it did. -/
def fnExactApplyRulesSpec : ChangeSpec := { name := "fnExactApplyRules", fn := fun _ => fun
  | [d1, d2, d3, d4] => { results := [.lit (.bool true)], args := [d1, d2, d3, d4] }
  | _ => none }
def fnExactApplyRulesRow : OpenClaim := { program := "ytlmojgecflcbkaa", sum := "5b7d968fd1204bd2daf78231f1109efd17c765317ba48a0332cf141b98e86bec", func := "loop.example/g00263/laws.FnExactApplyRules", spec := "fnExactApplyRules", unfollowed := true, recurses := true, apart := false }
def FnExactApplyRulesSaid : Prop := fnExactApplyRulesRow.holds Try.pinned (OpenSpec.ofChange fnExactApplyRulesSpec)

/-- ITS FALSE NEIGHBOUR: 'it returns false'. Refute it at one input. -/
def fnExactApplyRulesWrong : ChangeSpec := { name := "fnExactApplyRules", fn := fun _ => fun
  | [d1, d2, d3, d4] => { results := [.lit (.bool false)], args := [d1, d2, d3, d4] }
  | _ => none }
def FnExactApplyRulesWrongFalsely : Prop := fnExactApplyRulesRow.holds Try.pinned (OpenSpec.ofChange fnExactApplyRulesWrong)

/-- 'laws.FnExactHasLoop': WHATEVER THE INPUT: true; the input reads as it did. -/
def fnExactHasLoopSpec : ChangeSpec := { name := "fnExactHasLoop", fn := fun _ => fun
  | [d1, d2] => { results := [.lit (.bool true)], args := [d1, d2] }
  | _ => none }
def fnExactHasLoopRow : OpenClaim := { program := "ytlmojgecflcbkaa", sum := "5b7d968fd1204bd2daf78231f1109efd17c765317ba48a0332cf141b98e86bec", func := "loop.example/g00263/laws.FnExactHasLoop", spec := "fnExactHasLoop", apart := false }
def FnExactHasLoopSaid : Prop := fnExactHasLoopRow.holds Try.pinned (OpenSpec.ofChange fnExactHasLoopSpec)

/-- ITS FALSE NEIGHBOUR: 'it returns false'. Refute it at one input. -/
def fnExactHasLoopWrong : ChangeSpec := { name := "fnExactHasLoop", fn := fun _ => fun
  | [d1, d2] => { results := [.lit (.bool false)], args := [d1, d2] }
  | _ => none }
def FnExactHasLoopWrongFalsely : Prop := fnExactHasLoopRow.holds Try.pinned (OpenSpec.ofChange fnExactHasLoopWrong)

/-- 'laws.FnExactExportAttrs': WHATEVER THE INPUT: true; the input reads as it did. -/
def fnExactExportAttrsSpec : ChangeSpec := { name := "fnExactExportAttrs", fn := fun _ => fun
  | [d1, d2, d3] => { results := [.lit (.bool true)], args := [d1, d2, d3] }
  | _ => none }
def fnExactExportAttrsRow : OpenClaim := { program := "ytlmojgecflcbkaa", sum := "5b7d968fd1204bd2daf78231f1109efd17c765317ba48a0332cf141b98e86bec", func := "loop.example/g00263/laws.FnExactExportAttrs", spec := "fnExactExportAttrs", apart := false }
def FnExactExportAttrsSaid : Prop := fnExactExportAttrsRow.holds Try.pinned (OpenSpec.ofChange fnExactExportAttrsSpec)

/-- ITS FALSE NEIGHBOUR: 'it returns false'. Refute it at one input. -/
def fnExactExportAttrsWrong : ChangeSpec := { name := "fnExactExportAttrs", fn := fun _ => fun
  | [d1, d2, d3] => { results := [.lit (.bool false)], args := [d1, d2, d3] }
  | _ => none }
def FnExactExportAttrsWrongFalsely : Prop := fnExactExportAttrsRow.holds Try.pinned (OpenSpec.ofChange fnExactExportAttrsWrong)

/- THE SECOND FORM. 'bulk': how many values and letters a reading holds, each counted each time it is reached (what is shared counts as often as it is met; a slice's spare places count too). A statement '..UptoSaid' is the law's where the arguments, and the package variables that the reading takes, are together of bulk at most 1048576: NARROWER than '..Said'. Prove '..Said' where nothing that the law and all that it calls make is longer than what came in: it says more and counts as full. Else prove '..UptoSaid'. A law counts once. -/
mutual
def uptoBulk {H : Type} : DataW H → Nat
  | .lit (.string bytes) => bytes.length + 1
  | .lit _ => 1
  | .nil => 1
  | .ptr d => uptoBulk d + 1
  | .slice elems spare => uptoBulkAll elems + uptoBulkAll spare + 1
  | .agg parts => uptoBulkAll parts + 1
  | .iface _ d => uptoBulk d + 1
  | .map entries => uptoBulkEntries entries + 1
  | .held _ => 1
def uptoBulkAll {H : Type} : List (DataW H) → Nat
  | [] => 0
  | d :: r => uptoBulk d + uptoBulkAll r
def uptoBulkEntries {H : Type} : List (Lit × DataW H) → Nat
  | [] => 0
  | x :: r => uptoBulkEntry x + uptoBulkEntries r
def uptoBulkEntry {H : Type} : Lit × DataW H → Nat
  | (.string bytes, d) => bytes.length + uptoBulk d + 1
  | (_, d) => uptoBulk d + 1
 end
def uptoSmall : (H : Type) → List (DataW H) → Bool := fun _ ds => decide (uptoBulkAll ds ≤ 1048576)
def OpenSpec.upto (s : _root_.Go.ChangeSpec) : _root_.Go.OpenSpec := { _root_.Go.OpenSpec.ofChange s with cond := some uptoSmall }

/-- 'laws.FnExactRuleFault', WHERE WHAT IT READS IS OF BULK AT MOST 1048576: true; the input reads as it did. -/
def fnExactRuleFaultUptoRow : OpenClaim := { program := "ytlmojgecflcbkaa", sum := "5b7d968fd1204bd2daf78231f1109efd17c765317ba48a0332cf141b98e86bec", func := "loop.example/g00263/laws.FnExactRuleFault", spec := "fnExactRuleFault", apart := false, narrowed := true }
def FnExactRuleFaultUptoSaid : Prop := fnExactRuleFaultUptoRow.holds Try.pinned (OpenSpec.upto fnExactRuleFaultSpec)

/-- 'laws.FnExactRulesFault', WHERE WHAT IT READS IS OF BULK AT MOST 1048576: true; the input reads as it did. -/
def fnExactRulesFaultUptoRow : OpenClaim := { program := "ytlmojgecflcbkaa", sum := "5b7d968fd1204bd2daf78231f1109efd17c765317ba48a0332cf141b98e86bec", func := "loop.example/g00263/laws.FnExactRulesFault", spec := "fnExactRulesFault", apart := false, narrowed := true }
def FnExactRulesFaultUptoSaid : Prop := fnExactRulesFaultUptoRow.holds Try.pinned (OpenSpec.upto fnExactRulesFaultSpec)

/-- 'laws.FnExactRuleMatches', WHERE WHAT IT READS IS OF BULK AT MOST 1048576: true; the input reads as it did. -/
def fnExactRuleMatchesUptoRow : OpenClaim := { program := "ytlmojgecflcbkaa", sum := "5b7d968fd1204bd2daf78231f1109efd17c765317ba48a0332cf141b98e86bec", func := "loop.example/g00263/laws.FnExactRuleMatches", spec := "fnExactRuleMatches", unfollowed := true, recurses := true, apart := false, narrowed := true }
def FnExactRuleMatchesUptoSaid : Prop := fnExactRuleMatchesUptoRow.holds Try.pinned (OpenSpec.upto fnExactRuleMatchesSpec)

/-- 'laws.FnExactApplyRules', WHERE WHAT IT READS IS OF BULK AT MOST 1048576: true; the input reads as it did. -/
def fnExactApplyRulesUptoRow : OpenClaim := { program := "ytlmojgecflcbkaa", sum := "5b7d968fd1204bd2daf78231f1109efd17c765317ba48a0332cf141b98e86bec", func := "loop.example/g00263/laws.FnExactApplyRules", spec := "fnExactApplyRules", unfollowed := true, recurses := true, apart := false, narrowed := true }
def FnExactApplyRulesUptoSaid : Prop := fnExactApplyRulesUptoRow.holds Try.pinned (OpenSpec.upto fnExactApplyRulesSpec)

/-- 'laws.FnExactHasLoop', WHERE WHAT IT READS IS OF BULK AT MOST 1048576: true; the input reads as it did. -/
def fnExactHasLoopUptoRow : OpenClaim := { program := "ytlmojgecflcbkaa", sum := "5b7d968fd1204bd2daf78231f1109efd17c765317ba48a0332cf141b98e86bec", func := "loop.example/g00263/laws.FnExactHasLoop", spec := "fnExactHasLoop", apart := false, narrowed := true }
def FnExactHasLoopUptoSaid : Prop := fnExactHasLoopUptoRow.holds Try.pinned (OpenSpec.upto fnExactHasLoopSpec)

/-- 'laws.FnExactExportAttrs', WHERE WHAT IT READS IS OF BULK AT MOST 1048576: true; the input reads as it did. -/
def fnExactExportAttrsUptoRow : OpenClaim := { program := "ytlmojgecflcbkaa", sum := "5b7d968fd1204bd2daf78231f1109efd17c765317ba48a0332cf141b98e86bec", func := "loop.example/g00263/laws.FnExactExportAttrs", spec := "fnExactExportAttrs", apart := false, narrowed := true }
def FnExactExportAttrsUptoSaid : Prop := fnExactExportAttrsUptoRow.holds Try.pinned (OpenSpec.upto fnExactExportAttrsSpec)

end Rows
end Go.Proofs.Ytlmojgecflcbkaa
