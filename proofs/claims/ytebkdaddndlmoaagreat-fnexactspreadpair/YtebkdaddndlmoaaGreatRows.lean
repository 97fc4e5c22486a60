/-
  No cell of these rows narrows 'for every input' (looked for: loops, veiled, ifaces, maps, wideKeys, modest, calm, conditions, laid).
  DERIVED. THE GIVEN ROWS OF THIS SEAT. 7 by the template 'for every input the law returns true; each argument reads behind the call as it read before'; 0 by the template 'total and deterministic' (their statements: YtebkdaddndlmoaaGreatTotals.lean).
  GIVEN WITH THE SEED: the statements are not yours to turn. If you find one false, say at which input.
  Laid BY PROGRAM, IN A SANDBOX (cutbox-rows.mjs): the forced cells as the released guide's own fill.sh prints them over the translation b930bc783dd2d42a… (all of the seat's roots in one cut). By AI agents, Wed Nov 11 2026. No macro, syntax, notation, axiom, sorry.
-/
import Derived.Test.YtebkdaddndlmoaaGreatChecked
import GoSem.Claim
import GoSem.ClaimJoined
import GoSem.ClaimMapViews
import Derived.JoinedTies
import Derived.KernelRfl
namespace Go.Proofs.YtebkdaddndlmoaaGreat
/- THE CELL 'sum', in the pinned program and in every row, IS THE sha256 OF THE DUMP (.gsa) THAT YtebkdaddndlmoaaGreatProg.lean LOADS. Nothing in Lean hashes anything: it is a label: what it is worth is what the hold of that sum in a sandbox is worth. -/
noncomputable def Tryz.pinned : Pinned := { name := "ytebkdaddndlmoaagreat", sum := "b930bc783dd2d42a2727a687f912d98c682ae2d41ae579691bf7244377c540db", checked := Tryz.checked }
namespace Rows
def none {H : Type} : Left H := { results := [], args := [] }

/-- 'laws.FnExactSayPair': WHATEVER THE INPUT: true; the input reads as it did. -/
def fnExactSayPairSpec : ChangeSpec := { name := "fnExactSayPair", fn := fun _ => fun
  | [d1, d2, d3] => { results := [.lit (.bool true)], args := [d1, d2, d3] }
  | _ => none }
def fnExactSayPairRow : OpenClaim := { program := "ytebkdaddndlmoaagreat", sum := "b930bc783dd2d42a2727a687f912d98c682ae2d41ae579691bf7244377c540db", func := "loop.example/g00263/laws.FnExactSayPair", spec := "fnExactSayPair", unfollowed := true, recurses := true, apart := false }
def FnExactSayPairSaid : Prop := fnExactSayPairRow.holds Tryz.pinned (OpenSpec.ofChange fnExactSayPairSpec)

/-- ITS FALSE NEIGHBOUR: 'it returns false'. Refute it at one input. -/
def fnExactSayPairWrong : ChangeSpec := { name := "fnExactSayPair", fn := fun _ => fun
  | [d1, d2, d3] => { results := [.lit (.bool false)], args := [d1, d2, d3] }
  | _ => none }
def FnExactSayPairWrongFalsely : Prop := fnExactSayPairRow.holds Tryz.pinned (OpenSpec.ofChange fnExactSayPairWrong)

/-- 'laws.FnExactLosePair': WHATEVER THE INPUT: true; the input reads as it did. -/
def fnExactLosePairSpec : ChangeSpec := { name := "fnExactLosePair", fn := fun _ => fun
  | [d1, d2] => { results := [.lit (.bool true)], args := [d1, d2] }
  | _ => none }
def fnExactLosePairRow : OpenClaim := { program := "ytebkdaddndlmoaagreat", sum := "b930bc783dd2d42a2727a687f912d98c682ae2d41ae579691bf7244377c540db", func := "loop.example/g00263/laws.FnExactLosePair", spec := "fnExactLosePair", unfollowed := true, recurses := true, apart := false }
def FnExactLosePairSaid : Prop := fnExactLosePairRow.holds Tryz.pinned (OpenSpec.ofChange fnExactLosePairSpec)

/-- ITS FALSE NEIGHBOUR: 'it returns false'. Refute it at one input. -/
def fnExactLosePairWrong : ChangeSpec := { name := "fnExactLosePair", fn := fun _ => fun
  | [d1, d2] => { results := [.lit (.bool false)], args := [d1, d2] }
  | _ => none }
def FnExactLosePairWrongFalsely : Prop := fnExactLosePairRow.holds Tryz.pinned (OpenSpec.ofChange fnExactLosePairWrong)

/-- 'laws.FnExactSyncPair': WHATEVER THE INPUT: true; the input reads as it did. -/
def fnExactSyncPairSpec : ChangeSpec := { name := "fnExactSyncPair", fn := fun _ => fun
  | [d1, d2] => { results := [.lit (.bool true)], args := [d1, d2] }
  | _ => none }
def fnExactSyncPairRow : OpenClaim := { program := "ytebkdaddndlmoaagreat", sum := "b930bc783dd2d42a2727a687f912d98c682ae2d41ae579691bf7244377c540db", func := "loop.example/g00263/laws.FnExactSyncPair", spec := "fnExactSyncPair", unfollowed := true, recurses := true, apart := false }
def FnExactSyncPairSaid : Prop := fnExactSyncPairRow.holds Tryz.pinned (OpenSpec.ofChange fnExactSyncPairSpec)

/-- ITS FALSE NEIGHBOUR: 'it returns false'. Refute it at one input. -/
def fnExactSyncPairWrong : ChangeSpec := { name := "fnExactSyncPair", fn := fun _ => fun
  | [d1, d2] => { results := [.lit (.bool false)], args := [d1, d2] }
  | _ => none }
def FnExactSyncPairWrongFalsely : Prop := fnExactSyncPairRow.holds Tryz.pinned (OpenSpec.ofChange fnExactSyncPairWrong)

/-- 'laws.FnExactSpreadPair': WHATEVER THE INPUT: true; the input reads as it did. -/
def fnExactSpreadPairSpec : ChangeSpec := { name := "fnExactSpreadPair", fn := fun _ => fun
  | [d1, d2] => { results := [.lit (.bool true)], args := [d1, d2] }
  | _ => none }
def fnExactSpreadPairRow : OpenClaim := { program := "ytebkdaddndlmoaagreat", sum := "b930bc783dd2d42a2727a687f912d98c682ae2d41ae579691bf7244377c540db", func := "loop.example/g00263/laws.FnExactSpreadPair", spec := "fnExactSpreadPair", unfollowed := true, recurses := true, apart := false }
def FnExactSpreadPairSaid : Prop := fnExactSpreadPairRow.holds Tryz.pinned (OpenSpec.ofChange fnExactSpreadPairSpec)

/-- ITS FALSE NEIGHBOUR: 'it returns false'. Refute it at one input. -/
def fnExactSpreadPairWrong : ChangeSpec := { name := "fnExactSpreadPair", fn := fun _ => fun
  | [d1, d2] => { results := [.lit (.bool false)], args := [d1, d2] }
  | _ => none }
def FnExactSpreadPairWrongFalsely : Prop := fnExactSpreadPairRow.holds Tryz.pinned (OpenSpec.ofChange fnExactSpreadPairWrong)

/-- 'laws.FnExactCrashPair': WHATEVER THE INPUT: true; the input reads as it did. -/
def fnExactCrashPairSpec : ChangeSpec := { name := "fnExactCrashPair", fn := fun _ => fun
  | [d1, d2, d3] => { results := [.lit (.bool true)], args := [d1, d2, d3] }
  | _ => none }
def fnExactCrashPairRow : OpenClaim := { program := "ytebkdaddndlmoaagreat", sum := "b930bc783dd2d42a2727a687f912d98c682ae2d41ae579691bf7244377c540db", func := "loop.example/g00263/laws.FnExactCrashPair", spec := "fnExactCrashPair", unfollowed := true, recurses := true, apart := false }
def FnExactCrashPairSaid : Prop := fnExactCrashPairRow.holds Tryz.pinned (OpenSpec.ofChange fnExactCrashPairSpec)

/-- ITS FALSE NEIGHBOUR: 'it returns false'. Refute it at one input. -/
def fnExactCrashPairWrong : ChangeSpec := { name := "fnExactCrashPair", fn := fun _ => fun
  | [d1, d2, d3] => { results := [.lit (.bool false)], args := [d1, d2, d3] }
  | _ => none }
def FnExactCrashPairWrongFalsely : Prop := fnExactCrashPairRow.holds Tryz.pinned (OpenSpec.ofChange fnExactCrashPairWrong)

/-- 'laws.FnExactRisePair': WHATEVER THE INPUT: true; the input reads as it did. -/
def fnExactRisePairSpec : ChangeSpec := { name := "fnExactRisePair", fn := fun _ => fun
  | [d1, d2] => { results := [.lit (.bool true)], args := [d1, d2] }
  | _ => none }
def fnExactRisePairRow : OpenClaim := { program := "ytebkdaddndlmoaagreat", sum := "b930bc783dd2d42a2727a687f912d98c682ae2d41ae579691bf7244377c540db", func := "loop.example/g00263/laws.FnExactRisePair", spec := "fnExactRisePair", unfollowed := true, recurses := true, apart := false }
def FnExactRisePairSaid : Prop := fnExactRisePairRow.holds Tryz.pinned (OpenSpec.ofChange fnExactRisePairSpec)

/-- ITS FALSE NEIGHBOUR: 'it returns false'. Refute it at one input. -/
def fnExactRisePairWrong : ChangeSpec := { name := "fnExactRisePair", fn := fun _ => fun
  | [d1, d2] => { results := [.lit (.bool false)], args := [d1, d2] }
  | _ => none }
def FnExactRisePairWrongFalsely : Prop := fnExactRisePairRow.holds Tryz.pinned (OpenSpec.ofChange fnExactRisePairWrong)

/-- 'laws.FnExactEventPair': WHATEVER THE INPUT: true; the input reads as it did. -/
def fnExactEventPairSpec : ChangeSpec := { name := "fnExactEventPair", fn := fun _ => fun
  | [d1, d2, d3] => { results := [.lit (.bool true)], args := [d1, d2, d3] }
  | _ => none }
def fnExactEventPairRow : OpenClaim := { program := "ytebkdaddndlmoaagreat", sum := "b930bc783dd2d42a2727a687f912d98c682ae2d41ae579691bf7244377c540db", func := "loop.example/g00263/laws.FnExactEventPair", spec := "fnExactEventPair", unfollowed := true, recurses := true, apart := false }
def FnExactEventPairSaid : Prop := fnExactEventPairRow.holds Tryz.pinned (OpenSpec.ofChange fnExactEventPairSpec)

/-- ITS FALSE NEIGHBOUR: 'it returns false'. Refute it at one input. -/
def fnExactEventPairWrong : ChangeSpec := { name := "fnExactEventPair", fn := fun _ => fun
  | [d1, d2, d3] => { results := [.lit (.bool false)], args := [d1, d2, d3] }
  | _ => none }
def FnExactEventPairWrongFalsely : Prop := fnExactEventPairRow.holds Tryz.pinned (OpenSpec.ofChange fnExactEventPairWrong)

/- THE SECOND FORM. 'bulk': how many values and letters a reading holds, each counted each time it is reached (what is shared counts as often as it is met; a slice's spare places count too). A statement '..UptoSaid' is the law's where the arguments, and the package variables that the reading takes, are together of bulk at most 1048576: NARROWER than '..Said'. Prove '..Said' where nothing that the law and all that it calls make is longer than what came in: it says more and counts as full. Else prove '..UptoSaid'. A law counts once. -/
mutual
def uptoBulk {H : Type} : DataW H → Nat
  | .lit (.string bytes) => bytes.length + 1
  | .lit _ => 1
  | .nil => 1
  | .ptr d => uptoBulk d + 1
  | .slice elems spare => uptoBulkAll elems + uptoBulkAll spare + 1
  | .agg parts => uptoBulkAll parts + 1
  | .iface _ d => uptoBulk d + 1
  | .map entries => uptoBulkEntries entries + 1
  | .held _ => 1
def uptoBulkAll {H : Type} : List (DataW H) → Nat
  | [] => 0
  | d :: r => uptoBulk d + uptoBulkAll r
def uptoBulkEntries {H : Type} : List (Lit × DataW H) → Nat
  | [] => 0
  | x :: r => uptoBulkEntry x + uptoBulkEntries r
def uptoBulkEntry {H : Type} : Lit × DataW H → Nat
  | (.string bytes, d) => bytes.length + uptoBulk d + 1
  | (_, d) => uptoBulk d + 1
 end
def uptoSmall : (H : Type) → List (DataW H) → Bool := fun _ ds => decide (uptoBulkAll ds ≤ 1048576)
def OpenSpec.upto (s : _root_.Go.ChangeSpec) : _root_.Go.OpenSpec := { _root_.Go.OpenSpec.ofChange s with cond := some uptoSmall }

/-- 'laws.FnExactSayPair', WHERE WHAT IT READS IS OF BULK AT MOST 1048576: true; the input reads as it did. -/
def fnExactSayPairUptoRow : OpenClaim := { program := "ytebkdaddndlmoaagreat", sum := "b930bc783dd2d42a2727a687f912d98c682ae2d41ae579691bf7244377c540db", func := "loop.example/g00263/laws.FnExactSayPair", spec := "fnExactSayPair", unfollowed := true, recurses := true, apart := false, narrowed := true }
def FnExactSayPairUptoSaid : Prop := fnExactSayPairUptoRow.holds Tryz.pinned (OpenSpec.upto fnExactSayPairSpec)

/-- 'laws.FnExactLosePair', WHERE WHAT IT READS IS OF BULK AT MOST 1048576: true; the input reads as it did. -/
def fnExactLosePairUptoRow : OpenClaim := { program := "ytebkdaddndlmoaagreat", sum := "b930bc783dd2d42a2727a687f912d98c682ae2d41ae579691bf7244377c540db", func := "loop.example/g00263/laws.FnExactLosePair", spec := "fnExactLosePair", unfollowed := true, recurses := true, apart := false, narrowed := true }
def FnExactLosePairUptoSaid : Prop := fnExactLosePairUptoRow.holds Tryz.pinned (OpenSpec.upto fnExactLosePairSpec)

/-- 'laws.FnExactSyncPair', WHERE WHAT IT READS IS OF BULK AT MOST 1048576: true; the input reads as it did. -/
def fnExactSyncPairUptoRow : OpenClaim := { program := "ytebkdaddndlmoaagreat", sum := "b930bc783dd2d42a2727a687f912d98c682ae2d41ae579691bf7244377c540db", func := "loop.example/g00263/laws.FnExactSyncPair", spec := "fnExactSyncPair", unfollowed := true, recurses := true, apart := false, narrowed := true }
def FnExactSyncPairUptoSaid : Prop := fnExactSyncPairUptoRow.holds Tryz.pinned (OpenSpec.upto fnExactSyncPairSpec)

/-- 'laws.FnExactSpreadPair', WHERE WHAT IT READS IS OF BULK AT MOST 1048576: true; the input reads as it did. -/
def fnExactSpreadPairUptoRow : OpenClaim := { program := "ytebkdaddndlmoaagreat", sum := "b930bc783dd2d42a2727a687f912d98c682ae2d41ae579691bf7244377c540db", func := "loop.example/g00263/laws.FnExactSpreadPair", spec := "fnExactSpreadPair", unfollowed := true, recurses := true, apart := false, narrowed := true }
def FnExactSpreadPairUptoSaid : Prop := fnExactSpreadPairUptoRow.holds Tryz.pinned (OpenSpec.upto fnExactSpreadPairSpec)

/-- 'laws.FnExactCrashPair', WHERE WHAT IT READS IS OF BULK AT MOST 1048576: true; the input reads as it did. -/
def fnExactCrashPairUptoRow : OpenClaim := { program := "ytebkdaddndlmoaagreat", sum := "b930bc783dd2d42a2727a687f912d98c682ae2d41ae579691bf7244377c540db", func := "loop.example/g00263/laws.FnExactCrashPair", spec := "fnExactCrashPair", unfollowed := true, recurses := true, apart := false, narrowed := true }
def FnExactCrashPairUptoSaid : Prop := fnExactCrashPairUptoRow.holds Tryz.pinned (OpenSpec.upto fnExactCrashPairSpec)

/-- 'laws.FnExactRisePair', WHERE WHAT IT READS IS OF BULK AT MOST 1048576: true; the input reads as it did. -/
def fnExactRisePairUptoRow : OpenClaim := { program := "ytebkdaddndlmoaagreat", sum := "b930bc783dd2d42a2727a687f912d98c682ae2d41ae579691bf7244377c540db", func := "loop.example/g00263/laws.FnExactRisePair", spec := "fnExactRisePair", unfollowed := true, recurses := true, apart := false, narrowed := true }
def FnExactRisePairUptoSaid : Prop := fnExactRisePairUptoRow.holds Tryz.pinned (OpenSpec.upto fnExactRisePairSpec)

/-- 'laws.FnExactEventPair', WHERE WHAT IT READS IS OF BULK AT MOST 1048576: true; the input reads as it did. -/
def fnExactEventPairUptoRow : OpenClaim := { program := "ytebkdaddndlmoaagreat", sum := "b930bc783dd2d42a2727a687f912d98c682ae2d41ae579691bf7244377c540db", func := "loop.example/g00263/laws.FnExactEventPair", spec := "fnExactEventPair", unfollowed := true, recurses := true, apart := false, narrowed := true }
def FnExactEventPairUptoSaid : Prop := fnExactEventPairUptoRow.holds Tryz.pinned (OpenSpec.upto fnExactEventPairSpec)

end Rows
end Go.Proofs.YtebkdaddndlmoaaGreat
