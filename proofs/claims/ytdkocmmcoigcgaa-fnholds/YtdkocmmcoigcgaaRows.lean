/-
  No cell of these rows narrows 'for every input' (looked for: loops, veiled, ifaces, maps, wideKeys, modest, calm, conditions, laid).
  DERIVED. THE GIVEN ROWS OF THIS SEAT. 12 by the template 'for every input the law returns true; each argument reads behind the call as it read before'; 0 by the template 'total and deterministic' (their statements: YtdkocmmcoigcgaaTotals.lean).
  GIVEN WITH THE SEED: the statements are not yours to turn. If you find one false, say at which input.
  Laid BY PROGRAM, IN A SANDBOX (cutbox-rows.mjs): the forced cells as the released guide's own fill.sh prints them over the translation e2950ea9136873a9… (all of the seat's roots in one cut). By AI agents, Wed Nov 11 2026. No macro, syntax, notation, axiom, sorry.
-/
import Derived.Test.YtdkocmmcoigcgaaChecked
import GoSem.Claim
import GoSem.ClaimJoined
import GoSem.ClaimMapViews
import Derived.JoinedTies
import Derived.KernelRfl
namespace Go.Proofs.Ytdkocmmcoigcgaa
/- THE CELL 'sum', in the pinned program and in every row, IS THE sha256 OF THE DUMP (.gsa) THAT YtdkocmmcoigcgaaProg.lean LOADS. Nothing in Lean hashes anything: it is a label: what it is worth is what the hold of that sum in a sandbox is worth. -/
noncomputable def Try.pinned : Pinned := { name := "ytdkocmmcoigcgaa", sum := "e2950ea9136873a9051a0b8ff1d5b34b5fabe7fbfb108f86a1276481d36aee36", checked := Try.checked }
namespace Rows
def none {H : Type} : Left H := { results := [], args := [] }

/-- 'laws.FnSessions': WHATEVER THE INPUT: true; the input reads as it did. -/
def fnSessionsSpec : ChangeSpec := { name := "fnSessions", fn := fun _ => fun
  | [d] => { results := [.lit (.bool true)], args := [d] }
  | _ => none }
def fnSessionsRow : OpenClaim := { program := "ytdkocmmcoigcgaa", sum := "e2950ea9136873a9051a0b8ff1d5b34b5fabe7fbfb108f86a1276481d36aee36", func := "loop.example/g00263/laws.FnSessions", spec := "fnSessions", unfollowed := true, recurses := true, apart := false }
def FnSessionsSaid : Prop := fnSessionsRow.holds Try.pinned (OpenSpec.ofChange fnSessionsSpec)

/-- ITS FALSE NEIGHBOUR: 'it returns false'. Refute it at one input. -/
def fnSessionsWrong : ChangeSpec := { name := "fnSessions", fn := fun _ => fun
  | [d] => { results := [.lit (.bool false)], args := [d] }
  | _ => none }
def FnSessionsWrongFalsely : Prop := fnSessionsRow.holds Try.pinned (OpenSpec.ofChange fnSessionsWrong)

/-- 'laws.FnHolds': WHATEVER THE INPUT: true; the input reads as it did. -/
def fnHoldsSpec : ChangeSpec := { name := "fnHolds", fn := fun _ => fun
  | [d] => { results := [.lit (.bool true)], args := [d] }
  | _ => none }
def fnHoldsRow : OpenClaim := { program := "ytdkocmmcoigcgaa", sum := "e2950ea9136873a9051a0b8ff1d5b34b5fabe7fbfb108f86a1276481d36aee36", func := "loop.example/g00263/laws.FnHolds", spec := "fnHolds", unfollowed := true, recurses := true, apart := false }
def FnHoldsSaid : Prop := fnHoldsRow.holds Try.pinned (OpenSpec.ofChange fnHoldsSpec)

/-- ITS FALSE NEIGHBOUR: 'it returns false'. Refute it at one input. -/
def fnHoldsWrong : ChangeSpec := { name := "fnHolds", fn := fun _ => fun
  | [d] => { results := [.lit (.bool false)], args := [d] }
  | _ => none }
def FnHoldsWrongFalsely : Prop := fnHoldsRow.holds Try.pinned (OpenSpec.ofChange fnHoldsWrong)

/-- 'laws.FnExactSessionFault': WHATEVER THE INPUT: true; the input reads as it did. -/
def fnExactSessionFaultSpec : ChangeSpec := { name := "fnExactSessionFault", fn := fun _ => fun
  | [d] => { results := [.lit (.bool true)], args := [d] }
  | _ => none }
def fnExactSessionFaultRow : OpenClaim := { program := "ytdkocmmcoigcgaa", sum := "e2950ea9136873a9051a0b8ff1d5b34b5fabe7fbfb108f86a1276481d36aee36", func := "loop.example/g00263/laws.FnExactSessionFault", spec := "fnExactSessionFault", apart := false }
def FnExactSessionFaultSaid : Prop := fnExactSessionFaultRow.holds Try.pinned (OpenSpec.ofChange fnExactSessionFaultSpec)

/-- ITS FALSE NEIGHBOUR: 'it returns false'. Refute it at one input. -/
def fnExactSessionFaultWrong : ChangeSpec := { name := "fnExactSessionFault", fn := fun _ => fun
  | [d] => { results := [.lit (.bool false)], args := [d] }
  | _ => none }
def FnExactSessionFaultWrongFalsely : Prop := fnExactSessionFaultRow.holds Try.pinned (OpenSpec.ofChange fnExactSessionFaultWrong)

/-- 'laws.FnExactConfigFault': WHATEVER THE INPUT: true; the input reads as it did. -/
def fnExactConfigFaultSpec : ChangeSpec := { name := "fnExactConfigFault", fn := fun _ => fun
  | [d] => { results := [.lit (.bool true)], args := [d] }
  | _ => none }
def fnExactConfigFaultRow : OpenClaim := { program := "ytdkocmmcoigcgaa", sum := "e2950ea9136873a9051a0b8ff1d5b34b5fabe7fbfb108f86a1276481d36aee36", func := "loop.example/g00263/laws.FnExactConfigFault", spec := "fnExactConfigFault", apart := false }
def FnExactConfigFaultSaid : Prop := fnExactConfigFaultRow.holds Try.pinned (OpenSpec.ofChange fnExactConfigFaultSpec)

/-- ITS FALSE NEIGHBOUR: 'it returns false'. Refute it at one input. -/
def fnExactConfigFaultWrong : ChangeSpec := { name := "fnExactConfigFault", fn := fun _ => fun
  | [d] => { results := [.lit (.bool false)], args := [d] }
  | _ => none }
def FnExactConfigFaultWrongFalsely : Prop := fnExactConfigFaultRow.holds Try.pinned (OpenSpec.ofChange fnExactConfigFaultWrong)

/-- 'laws.FnExactStartSession': WHATEVER THE INPUT: true; the input reads as it did. -/
def fnExactStartSessionSpec : ChangeSpec := { name := "fnExactStartSession", fn := fun _ => fun
  | [d1, d2] => { results := [.lit (.bool true)], args := [d1, d2] }
  | _ => none }
def fnExactStartSessionRow : OpenClaim := { program := "ytdkocmmcoigcgaa", sum := "e2950ea9136873a9051a0b8ff1d5b34b5fabe7fbfb108f86a1276481d36aee36", func := "loop.example/g00263/laws.FnExactStartSession", spec := "fnExactStartSession", apart := false }
def FnExactStartSessionSaid : Prop := fnExactStartSessionRow.holds Try.pinned (OpenSpec.ofChange fnExactStartSessionSpec)

/-- ITS FALSE NEIGHBOUR: 'it returns false'. Refute it at one input. -/
def fnExactStartSessionWrong : ChangeSpec := { name := "fnExactStartSession", fn := fun _ => fun
  | [d1, d2] => { results := [.lit (.bool false)], args := [d1, d2] }
  | _ => none }
def FnExactStartSessionWrongFalsely : Prop := fnExactStartSessionRow.holds Try.pinned (OpenSpec.ofChange fnExactStartSessionWrong)

/-- 'laws.FnExactHearSession': WHATEVER THE INPUT: true; the input reads as it did. -/
def fnExactHearSessionSpec : ChangeSpec := { name := "fnExactHearSession", fn := fun _ => fun
  | [d1, d2, d3] => { results := [.lit (.bool true)], args := [d1, d2, d3] }
  | _ => none }
def fnExactHearSessionRow : OpenClaim := { program := "ytdkocmmcoigcgaa", sum := "e2950ea9136873a9051a0b8ff1d5b34b5fabe7fbfb108f86a1276481d36aee36", func := "loop.example/g00263/laws.FnExactHearSession", spec := "fnExactHearSession", unfollowed := true, recurses := true, apart := false }
def FnExactHearSessionSaid : Prop := fnExactHearSessionRow.holds Try.pinned (OpenSpec.ofChange fnExactHearSessionSpec)

/-- ITS FALSE NEIGHBOUR: 'it returns false'. Refute it at one input. -/
def fnExactHearSessionWrong : ChangeSpec := { name := "fnExactHearSession", fn := fun _ => fun
  | [d1, d2, d3] => { results := [.lit (.bool false)], args := [d1, d2, d3] }
  | _ => none }
def FnExactHearSessionWrongFalsely : Prop := fnExactHearSessionRow.holds Try.pinned (OpenSpec.ofChange fnExactHearSessionWrong)

/-- 'laws.FnExactTickSession': WHATEVER THE INPUT: true; the input reads as it did. -/
def fnExactTickSessionSpec : ChangeSpec := { name := "fnExactTickSession", fn := fun _ => fun
  | [d1, d2] => { results := [.lit (.bool true)], args := [d1, d2] }
  | _ => none }
def fnExactTickSessionRow : OpenClaim := { program := "ytdkocmmcoigcgaa", sum := "e2950ea9136873a9051a0b8ff1d5b34b5fabe7fbfb108f86a1276481d36aee36", func := "loop.example/g00263/laws.FnExactTickSession", spec := "fnExactTickSession", unfollowed := true, recurses := true, apart := false }
def FnExactTickSessionSaid : Prop := fnExactTickSessionRow.holds Try.pinned (OpenSpec.ofChange fnExactTickSessionSpec)

/-- ITS FALSE NEIGHBOUR: 'it returns false'. Refute it at one input. -/
def fnExactTickSessionWrong : ChangeSpec := { name := "fnExactTickSession", fn := fun _ => fun
  | [d1, d2] => { results := [.lit (.bool false)], args := [d1, d2] }
  | _ => none }
def FnExactTickSessionWrongFalsely : Prop := fnExactTickSessionRow.holds Try.pinned (OpenSpec.ofChange fnExactTickSessionWrong)

/-- 'laws.FnExactFailSession': WHATEVER THE INPUT: true; the input reads as it did. -/
def fnExactFailSessionSpec : ChangeSpec := { name := "fnExactFailSession", fn := fun _ => fun
  | [d1, d2, d3, d4] => { results := [.lit (.bool true)], args := [d1, d2, d3, d4] }
  | _ => none }
def fnExactFailSessionRow : OpenClaim := { program := "ytdkocmmcoigcgaa", sum := "e2950ea9136873a9051a0b8ff1d5b34b5fabe7fbfb108f86a1276481d36aee36", func := "loop.example/g00263/laws.FnExactFailSession", spec := "fnExactFailSession", apart := false }
def FnExactFailSessionSaid : Prop := fnExactFailSessionRow.holds Try.pinned (OpenSpec.ofChange fnExactFailSessionSpec)

/-- ITS FALSE NEIGHBOUR: 'it returns false'. Refute it at one input. -/
def fnExactFailSessionWrong : ChangeSpec := { name := "fnExactFailSession", fn := fun _ => fun
  | [d1, d2, d3, d4] => { results := [.lit (.bool false)], args := [d1, d2, d3, d4] }
  | _ => none }
def FnExactFailSessionWrongFalsely : Prop := fnExactFailSessionRow.holds Try.pinned (OpenSpec.ofChange fnExactFailSessionWrong)

/-- 'laws.FnExactStopSession': WHATEVER THE INPUT: true; the input reads as it did. -/
def fnExactStopSessionSpec : ChangeSpec := { name := "fnExactStopSession", fn := fun _ => fun
  | [d1, d2] => { results := [.lit (.bool true)], args := [d1, d2] }
  | _ => none }
def fnExactStopSessionRow : OpenClaim := { program := "ytdkocmmcoigcgaa", sum := "e2950ea9136873a9051a0b8ff1d5b34b5fabe7fbfb108f86a1276481d36aee36", func := "loop.example/g00263/laws.FnExactStopSession", spec := "fnExactStopSession", apart := false }
def FnExactStopSessionSaid : Prop := fnExactStopSessionRow.holds Try.pinned (OpenSpec.ofChange fnExactStopSessionSpec)

/-- ITS FALSE NEIGHBOUR: 'it returns false'. Refute it at one input. -/
def fnExactStopSessionWrong : ChangeSpec := { name := "fnExactStopSession", fn := fun _ => fun
  | [d1, d2] => { results := [.lit (.bool false)], args := [d1, d2] }
  | _ => none }
def FnExactStopSessionWrongFalsely : Prop := fnExactStopSessionRow.holds Try.pinned (OpenSpec.ofChange fnExactStopSessionWrong)

/-- 'laws.FnExactPackMessage': WHATEVER THE INPUT: true; the input reads as it did. -/
def fnExactPackMessageSpec : ChangeSpec := { name := "fnExactPackMessage", fn := fun _ => fun
  | [d] => { results := [.lit (.bool true)], args := [d] }
  | _ => none }
def fnExactPackMessageRow : OpenClaim := { program := "ytdkocmmcoigcgaa", sum := "e2950ea9136873a9051a0b8ff1d5b34b5fabe7fbfb108f86a1276481d36aee36", func := "loop.example/g00263/laws.FnExactPackMessage", spec := "fnExactPackMessage", unfollowed := true, recurses := true, apart := false }
def FnExactPackMessageSaid : Prop := fnExactPackMessageRow.holds Try.pinned (OpenSpec.ofChange fnExactPackMessageSpec)

/-- ITS FALSE NEIGHBOUR: 'it returns false'. Refute it at one input. -/
def fnExactPackMessageWrong : ChangeSpec := { name := "fnExactPackMessage", fn := fun _ => fun
  | [d] => { results := [.lit (.bool false)], args := [d] }
  | _ => none }
def FnExactPackMessageWrongFalsely : Prop := fnExactPackMessageRow.holds Try.pinned (OpenSpec.ofChange fnExactPackMessageWrong)

/-- 'laws.FnExactParseMessage': WHATEVER THE INPUT: true; the input reads as it did. -/
def fnExactParseMessageSpec : ChangeSpec := { name := "fnExactParseMessage", fn := fun _ => fun
  | [d] => { results := [.lit (.bool true)], args := [d] }
  | _ => none }
def fnExactParseMessageRow : OpenClaim := { program := "ytdkocmmcoigcgaa", sum := "e2950ea9136873a9051a0b8ff1d5b34b5fabe7fbfb108f86a1276481d36aee36", func := "loop.example/g00263/laws.FnExactParseMessage", spec := "fnExactParseMessage", unfollowed := true, recurses := true, apart := false }
def FnExactParseMessageSaid : Prop := fnExactParseMessageRow.holds Try.pinned (OpenSpec.ofChange fnExactParseMessageSpec)

/-- ITS FALSE NEIGHBOUR: 'it returns false'. Refute it at one input. -/
def fnExactParseMessageWrong : ChangeSpec := { name := "fnExactParseMessage", fn := fun _ => fun
  | [d] => { results := [.lit (.bool false)], args := [d] }
  | _ => none }
def FnExactParseMessageWrongFalsely : Prop := fnExactParseMessageRow.holds Try.pinned (OpenSpec.ofChange fnExactParseMessageWrong)

/-- 'laws.FnExactReadMessages': WHATEVER THE INPUT: true; the input reads as it did. -/
def fnExactReadMessagesSpec : ChangeSpec := { name := "fnExactReadMessages", fn := fun _ => fun
  | [d] => { results := [.lit (.bool true)], args := [d] }
  | _ => none }
def fnExactReadMessagesRow : OpenClaim := { program := "ytdkocmmcoigcgaa", sum := "e2950ea9136873a9051a0b8ff1d5b34b5fabe7fbfb108f86a1276481d36aee36", func := "loop.example/g00263/laws.FnExactReadMessages", spec := "fnExactReadMessages", unfollowed := true, recurses := true, apart := false }
def FnExactReadMessagesSaid : Prop := fnExactReadMessagesRow.holds Try.pinned (OpenSpec.ofChange fnExactReadMessagesSpec)

/-- ITS FALSE NEIGHBOUR: 'it returns false'. Refute it at one input. -/
def fnExactReadMessagesWrong : ChangeSpec := { name := "fnExactReadMessages", fn := fun _ => fun
  | [d] => { results := [.lit (.bool false)], args := [d] }
  | _ => none }
def FnExactReadMessagesWrongFalsely : Prop := fnExactReadMessagesRow.holds Try.pinned (OpenSpec.ofChange fnExactReadMessagesWrong)

/- THE SECOND FORM. 'bulk': how many values and letters a reading holds, each counted each time it is reached (what is shared counts as often as it is met; a slice's spare places count too). A statement '..UptoSaid' is the law's where the arguments, and the package variables that the reading takes, are together of bulk at most 1048576: NARROWER than '..Said'. Prove '..Said' where nothing that the law and all that it calls make is longer than what came in: it says more and counts as full. Else prove '..UptoSaid'. A law counts once. -/
mutual
def uptoBulk {H : Type} : DataW H → Nat
  | .lit (.string bytes) => bytes.length + 1
  | .lit _ => 1
  | .nil => 1
  | .ptr d => uptoBulk d + 1
  | .slice elems spare => uptoBulkAll elems + uptoBulkAll spare + 1
  | .agg parts => uptoBulkAll parts + 1
  | .iface _ d => uptoBulk d + 1
  | .map entries => uptoBulkEntries entries + 1
  | .held _ => 1
def uptoBulkAll {H : Type} : List (DataW H) → Nat
  | [] => 0
  | d :: r => uptoBulk d + uptoBulkAll r
def uptoBulkEntries {H : Type} : List (Lit × DataW H) → Nat
  | [] => 0
  | x :: r => uptoBulkEntry x + uptoBulkEntries r
def uptoBulkEntry {H : Type} : Lit × DataW H → Nat
  | (.string bytes, d) => bytes.length + uptoBulk d + 1
  | (_, d) => uptoBulk d + 1
 end
def uptoSmall : (H : Type) → List (DataW H) → Bool := fun _ ds => decide (uptoBulkAll ds ≤ 1048576)
def OpenSpec.upto (s : _root_.Go.ChangeSpec) : _root_.Go.OpenSpec := { _root_.Go.OpenSpec.ofChange s with cond := some uptoSmall }

/-- 'laws.FnSessions', WHERE WHAT IT READS IS OF BULK AT MOST 1048576: true; the input reads as it did. -/
def fnSessionsUptoRow : OpenClaim := { program := "ytdkocmmcoigcgaa", sum := "e2950ea9136873a9051a0b8ff1d5b34b5fabe7fbfb108f86a1276481d36aee36", func := "loop.example/g00263/laws.FnSessions", spec := "fnSessions", unfollowed := true, recurses := true, apart := false, narrowed := true }
def FnSessionsUptoSaid : Prop := fnSessionsUptoRow.holds Try.pinned (OpenSpec.upto fnSessionsSpec)

/-- 'laws.FnHolds', WHERE WHAT IT READS IS OF BULK AT MOST 1048576: true; the input reads as it did. -/
def fnHoldsUptoRow : OpenClaim := { program := "ytdkocmmcoigcgaa", sum := "e2950ea9136873a9051a0b8ff1d5b34b5fabe7fbfb108f86a1276481d36aee36", func := "loop.example/g00263/laws.FnHolds", spec := "fnHolds", unfollowed := true, recurses := true, apart := false, narrowed := true }
def FnHoldsUptoSaid : Prop := fnHoldsUptoRow.holds Try.pinned (OpenSpec.upto fnHoldsSpec)

/-- 'laws.FnExactSessionFault', WHERE WHAT IT READS IS OF BULK AT MOST 1048576: true; the input reads as it did. -/
def fnExactSessionFaultUptoRow : OpenClaim := { program := "ytdkocmmcoigcgaa", sum := "e2950ea9136873a9051a0b8ff1d5b34b5fabe7fbfb108f86a1276481d36aee36", func := "loop.example/g00263/laws.FnExactSessionFault", spec := "fnExactSessionFault", apart := false, narrowed := true }
def FnExactSessionFaultUptoSaid : Prop := fnExactSessionFaultUptoRow.holds Try.pinned (OpenSpec.upto fnExactSessionFaultSpec)

/-- 'laws.FnExactConfigFault', WHERE WHAT IT READS IS OF BULK AT MOST 1048576: true; the input reads as it did. -/
def fnExactConfigFaultUptoRow : OpenClaim := { program := "ytdkocmmcoigcgaa", sum := "e2950ea9136873a9051a0b8ff1d5b34b5fabe7fbfb108f86a1276481d36aee36", func := "loop.example/g00263/laws.FnExactConfigFault", spec := "fnExactConfigFault", apart := false, narrowed := true }
def FnExactConfigFaultUptoSaid : Prop := fnExactConfigFaultUptoRow.holds Try.pinned (OpenSpec.upto fnExactConfigFaultSpec)

/-- 'laws.FnExactStartSession', WHERE WHAT IT READS IS OF BULK AT MOST 1048576: true; the input reads as it did. -/
def fnExactStartSessionUptoRow : OpenClaim := { program := "ytdkocmmcoigcgaa", sum := "e2950ea9136873a9051a0b8ff1d5b34b5fabe7fbfb108f86a1276481d36aee36", func := "loop.example/g00263/laws.FnExactStartSession", spec := "fnExactStartSession", apart := false, narrowed := true }
def FnExactStartSessionUptoSaid : Prop := fnExactStartSessionUptoRow.holds Try.pinned (OpenSpec.upto fnExactStartSessionSpec)

/-- 'laws.FnExactHearSession', WHERE WHAT IT READS IS OF BULK AT MOST 1048576: true; the input reads as it did. -/
def fnExactHearSessionUptoRow : OpenClaim := { program := "ytdkocmmcoigcgaa", sum := "e2950ea9136873a9051a0b8ff1d5b34b5fabe7fbfb108f86a1276481d36aee36", func := "loop.example/g00263/laws.FnExactHearSession", spec := "fnExactHearSession", unfollowed := true, recurses := true, apart := false, narrowed := true }
def FnExactHearSessionUptoSaid : Prop := fnExactHearSessionUptoRow.holds Try.pinned (OpenSpec.upto fnExactHearSessionSpec)

/-- 'laws.FnExactTickSession', WHERE WHAT IT READS IS OF BULK AT MOST 1048576: true; the input reads as it did. -/
def fnExactTickSessionUptoRow : OpenClaim := { program := "ytdkocmmcoigcgaa", sum := "e2950ea9136873a9051a0b8ff1d5b34b5fabe7fbfb108f86a1276481d36aee36", func := "loop.example/g00263/laws.FnExactTickSession", spec := "fnExactTickSession", unfollowed := true, recurses := true, apart := false, narrowed := true }
def FnExactTickSessionUptoSaid : Prop := fnExactTickSessionUptoRow.holds Try.pinned (OpenSpec.upto fnExactTickSessionSpec)

/-- 'laws.FnExactFailSession', WHERE WHAT IT READS IS OF BULK AT MOST 1048576: true; the input reads as it did. -/
def fnExactFailSessionUptoRow : OpenClaim := { program := "ytdkocmmcoigcgaa", sum := "e2950ea9136873a9051a0b8ff1d5b34b5fabe7fbfb108f86a1276481d36aee36", func := "loop.example/g00263/laws.FnExactFailSession", spec := "fnExactFailSession", apart := false, narrowed := true }
def FnExactFailSessionUptoSaid : Prop := fnExactFailSessionUptoRow.holds Try.pinned (OpenSpec.upto fnExactFailSessionSpec)

/-- 'laws.FnExactStopSession', WHERE WHAT IT READS IS OF BULK AT MOST 1048576: true; the input reads as it did. -/
def fnExactStopSessionUptoRow : OpenClaim := { program := "ytdkocmmcoigcgaa", sum := "e2950ea9136873a9051a0b8ff1d5b34b5fabe7fbfb108f86a1276481d36aee36", func := "loop.example/g00263/laws.FnExactStopSession", spec := "fnExactStopSession", apart := false, narrowed := true }
def FnExactStopSessionUptoSaid : Prop := fnExactStopSessionUptoRow.holds Try.pinned (OpenSpec.upto fnExactStopSessionSpec)

/-- 'laws.FnExactPackMessage', WHERE WHAT IT READS IS OF BULK AT MOST 1048576: true; the input reads as it did. -/
def fnExactPackMessageUptoRow : OpenClaim := { program := "ytdkocmmcoigcgaa", sum := "e2950ea9136873a9051a0b8ff1d5b34b5fabe7fbfb108f86a1276481d36aee36", func := "loop.example/g00263/laws.FnExactPackMessage", spec := "fnExactPackMessage", unfollowed := true, recurses := true, apart := false, narrowed := true }
def FnExactPackMessageUptoSaid : Prop := fnExactPackMessageUptoRow.holds Try.pinned (OpenSpec.upto fnExactPackMessageSpec)

/-- 'laws.FnExactParseMessage', WHERE WHAT IT READS IS OF BULK AT MOST 1048576: true; the input reads as it did. -/
def fnExactParseMessageUptoRow : OpenClaim := { program := "ytdkocmmcoigcgaa", sum := "e2950ea9136873a9051a0b8ff1d5b34b5fabe7fbfb108f86a1276481d36aee36", func := "loop.example/g00263/laws.FnExactParseMessage", spec := "fnExactParseMessage", unfollowed := true, recurses := true, apart := false, narrowed := true }
def FnExactParseMessageUptoSaid : Prop := fnExactParseMessageUptoRow.holds Try.pinned (OpenSpec.upto fnExactParseMessageSpec)

/-- 'laws.FnExactReadMessages', WHERE WHAT IT READS IS OF BULK AT MOST 1048576: true; the input reads as it did. -/
def fnExactReadMessagesUptoRow : OpenClaim := { program := "ytdkocmmcoigcgaa", sum := "e2950ea9136873a9051a0b8ff1d5b34b5fabe7fbfb108f86a1276481d36aee36", func := "loop.example/g00263/laws.FnExactReadMessages", spec := "fnExactReadMessages", unfollowed := true, recurses := true, apart := false, narrowed := true }
def FnExactReadMessagesUptoSaid : Prop := fnExactReadMessagesUptoRow.holds Try.pinned (OpenSpec.upto fnExactReadMessagesSpec)

end Rows
end Go.Proofs.Ytdkocmmcoigcgaa
