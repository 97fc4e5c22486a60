/-
  No cell of these rows narrows 'for every input' (looked for: loops, veiled, ifaces, maps, wideKeys, modest, calm, conditions, laid).
  DERIVED. THE GIVEN ROWS OF THIS SEAT. 5 by the template 'for every input the law returns true; each argument reads behind the call as it read before'; 0 by the template 'total and deterministic' (their statements: YtmfmpcagoamffabTotals.lean).
  GIVEN WITH THE SEED: the statements are not yours to turn. If you find one false, say at which input.
  Laid BY PROGRAM, IN A SANDBOX (cutbox-rows.mjs): the forced cells as the released guide's own fill.sh prints them over the translation 9d37df3ff47a48b1… (all of the seat's roots in one cut). By AI agents, Wed Nov 11 2026. No macro, syntax, notation, axiom, sorry.
-/
import Derived.Test.YtmfmpcagoamffabChecked
import GoSem.Claim
import GoSem.ClaimJoined
import GoSem.ClaimMapViews
import Derived.JoinedTies
import Derived.KernelRfl
namespace Go.Proofs.Ytmfmpcagoamffab
/- THE CELL 'sum', in the pinned program and in every row, IS THE sha256 OF THE DUMP (.gsa) THAT YtmfmpcagoamffabProg.lean LOADS. Nothing in Lean hashes anything: it is a label: what it is worth is what the hold of that sum in a sandbox is worth. -/
noncomputable def Try.pinned : Pinned := { name := "ytmfmpcagoamffab", sum := "9d37df3ff47a48b1fcfc5d93f7ad2f50919b93882a33379a3863cea1e7b0d747", checked := Try.checked }
namespace Rows
def none {H : Type} : Left H := { results := [], args := [] }

/-- 'laws.FnExactJournalFault': WHATEVER THE INPUT: true; the input reads as it did. -/
def fnExactJournalFaultSpec : ChangeSpec := { name := "fnExactJournalFault", fn := fun _ => fun
  | [d] => { results := [.lit (.bool true)], args := [d] }
  | _ => none }
def fnExactJournalFaultRow : OpenClaim := { program := "ytmfmpcagoamffab", sum := "9d37df3ff47a48b1fcfc5d93f7ad2f50919b93882a33379a3863cea1e7b0d747", func := "loop.example/g00263/laws.FnExactJournalFault", spec := "fnExactJournalFault", unfollowed := true, recurses := true, apart := false }
def FnExactJournalFaultSaid : Prop := fnExactJournalFaultRow.holds Try.pinned (OpenSpec.ofChange fnExactJournalFaultSpec)

/-- ITS FALSE NEIGHBOUR: 'it returns false'. Refute it at one input. -/
def fnExactJournalFaultWrong : ChangeSpec := { name := "fnExactJournalFault", fn := fun _ => fun
  | [d] => { results := [.lit (.bool false)], args := [d] }
  | _ => none }
def FnExactJournalFaultWrongFalsely : Prop := fnExactJournalFaultRow.holds Try.pinned (OpenSpec.ofChange fnExactJournalFaultWrong)

/-- 'laws.FnExactAppendJournal': WHATEVER THE INPUT: true; the input reads as it did. -/
def fnExactAppendJournalSpec : ChangeSpec := { name := "fnExactAppendJournal", fn := fun _ => fun
  | [d1, d2] => { results := [.lit (.bool true)], args := [d1, d2] }
  | _ => none }
def fnExactAppendJournalRow : OpenClaim := { program := "ytmfmpcagoamffab", sum := "9d37df3ff47a48b1fcfc5d93f7ad2f50919b93882a33379a3863cea1e7b0d747", func := "loop.example/g00263/laws.FnExactAppendJournal", spec := "fnExactAppendJournal", unfollowed := true, recurses := true, apart := false }
def FnExactAppendJournalSaid : Prop := fnExactAppendJournalRow.holds Try.pinned (OpenSpec.ofChange fnExactAppendJournalSpec)

/-- ITS FALSE NEIGHBOUR: 'it returns false'. Refute it at one input. -/
def fnExactAppendJournalWrong : ChangeSpec := { name := "fnExactAppendJournal", fn := fun _ => fun
  | [d1, d2] => { results := [.lit (.bool false)], args := [d1, d2] }
  | _ => none }
def FnExactAppendJournalWrongFalsely : Prop := fnExactAppendJournalRow.holds Try.pinned (OpenSpec.ofChange fnExactAppendJournalWrong)

/-- 'laws.FnExactSyncJournal': WHATEVER THE INPUT: true; the input reads as it did. -/
def fnExactSyncJournalSpec : ChangeSpec := { name := "fnExactSyncJournal", fn := fun _ => fun
  | [d] => { results := [.lit (.bool true)], args := [d] }
  | _ => none }
def fnExactSyncJournalRow : OpenClaim := { program := "ytmfmpcagoamffab", sum := "9d37df3ff47a48b1fcfc5d93f7ad2f50919b93882a33379a3863cea1e7b0d747", func := "loop.example/g00263/laws.FnExactSyncJournal", spec := "fnExactSyncJournal", unfollowed := true, recurses := true, apart := false }
def FnExactSyncJournalSaid : Prop := fnExactSyncJournalRow.holds Try.pinned (OpenSpec.ofChange fnExactSyncJournalSpec)

/-- ITS FALSE NEIGHBOUR: 'it returns false'. Refute it at one input. -/
def fnExactSyncJournalWrong : ChangeSpec := { name := "fnExactSyncJournal", fn := fun _ => fun
  | [d] => { results := [.lit (.bool false)], args := [d] }
  | _ => none }
def FnExactSyncJournalWrongFalsely : Prop := fnExactSyncJournalRow.holds Try.pinned (OpenSpec.ofChange fnExactSyncJournalWrong)

/-- 'laws.FnExactCrashJournal': WHATEVER THE INPUT: true; the input reads as it did. -/
def fnExactCrashJournalSpec : ChangeSpec := { name := "fnExactCrashJournal", fn := fun _ => fun
  | [d1, d2] => { results := [.lit (.bool true)], args := [d1, d2] }
  | _ => none }
def fnExactCrashJournalRow : OpenClaim := { program := "ytmfmpcagoamffab", sum := "9d37df3ff47a48b1fcfc5d93f7ad2f50919b93882a33379a3863cea1e7b0d747", func := "loop.example/g00263/laws.FnExactCrashJournal", spec := "fnExactCrashJournal", unfollowed := true, recurses := true, apart := false }
def FnExactCrashJournalSaid : Prop := fnExactCrashJournalRow.holds Try.pinned (OpenSpec.ofChange fnExactCrashJournalSpec)

/-- ITS FALSE NEIGHBOUR: 'it returns false'. Refute it at one input. -/
def fnExactCrashJournalWrong : ChangeSpec := { name := "fnExactCrashJournal", fn := fun _ => fun
  | [d1, d2] => { results := [.lit (.bool false)], args := [d1, d2] }
  | _ => none }
def FnExactCrashJournalWrongFalsely : Prop := fnExactCrashJournalRow.holds Try.pinned (OpenSpec.ofChange fnExactCrashJournalWrong)

/-- 'laws.FnExactCutJournal': WHATEVER THE INPUT: true; the input reads as it did. -/
def fnExactCutJournalSpec : ChangeSpec := { name := "fnExactCutJournal", fn := fun _ => fun
  | [d1, d2] => { results := [.lit (.bool true)], args := [d1, d2] }
  | _ => none }
def fnExactCutJournalRow : OpenClaim := { program := "ytmfmpcagoamffab", sum := "9d37df3ff47a48b1fcfc5d93f7ad2f50919b93882a33379a3863cea1e7b0d747", func := "loop.example/g00263/laws.FnExactCutJournal", spec := "fnExactCutJournal", unfollowed := true, recurses := true, apart := false }
def FnExactCutJournalSaid : Prop := fnExactCutJournalRow.holds Try.pinned (OpenSpec.ofChange fnExactCutJournalSpec)

/-- ITS FALSE NEIGHBOUR: 'it returns false'. Refute it at one input. -/
def fnExactCutJournalWrong : ChangeSpec := { name := "fnExactCutJournal", fn := fun _ => fun
  | [d1, d2] => { results := [.lit (.bool false)], args := [d1, d2] }
  | _ => none }
def FnExactCutJournalWrongFalsely : Prop := fnExactCutJournalRow.holds Try.pinned (OpenSpec.ofChange fnExactCutJournalWrong)

/- THE SECOND FORM. 'bulk': how many values and letters a reading holds, each counted each time it is reached (what is shared counts as often as it is met; a slice's spare places count too). A statement '..UptoSaid' is the law's where the arguments, and the package variables that the reading takes, are together of bulk at most 1048576: NARROWER than '..Said'. Prove '..Said' where nothing that the law and all that it calls make is longer than what came in: it says more and counts as full. Else prove '..UptoSaid'. A law counts once. -/
mutual
def uptoBulk {H : Type} : DataW H → Nat
  | .lit (.string bytes) => bytes.length + 1
  | .lit _ => 1
  | .nil => 1
  | .ptr d => uptoBulk d + 1
  | .slice elems spare => uptoBulkAll elems + uptoBulkAll spare + 1
  | .agg parts => uptoBulkAll parts + 1
  | .iface _ d => uptoBulk d + 1
  | .map entries => uptoBulkEntries entries + 1
  | .held _ => 1
def uptoBulkAll {H : Type} : List (DataW H) → Nat
  | [] => 0
  | d :: r => uptoBulk d + uptoBulkAll r
def uptoBulkEntries {H : Type} : List (Lit × DataW H) → Nat
  | [] => 0
  | x :: r => uptoBulkEntry x + uptoBulkEntries r
def uptoBulkEntry {H : Type} : Lit × DataW H → Nat
  | (.string bytes, d) => bytes.length + uptoBulk d + 1
  | (_, d) => uptoBulk d + 1
 end
def uptoSmall : (H : Type) → List (DataW H) → Bool := fun _ ds => decide (uptoBulkAll ds ≤ 1048576)
def OpenSpec.upto (s : _root_.Go.ChangeSpec) : _root_.Go.OpenSpec := { _root_.Go.OpenSpec.ofChange s with cond := some uptoSmall }

/-- 'laws.FnExactJournalFault', WHERE WHAT IT READS IS OF BULK AT MOST 1048576: true; the input reads as it did. -/
def fnExactJournalFaultUptoRow : OpenClaim := { program := "ytmfmpcagoamffab", sum := "9d37df3ff47a48b1fcfc5d93f7ad2f50919b93882a33379a3863cea1e7b0d747", func := "loop.example/g00263/laws.FnExactJournalFault", spec := "fnExactJournalFault", unfollowed := true, recurses := true, apart := false, narrowed := true }
def FnExactJournalFaultUptoSaid : Prop := fnExactJournalFaultUptoRow.holds Try.pinned (OpenSpec.upto fnExactJournalFaultSpec)

/-- 'laws.FnExactAppendJournal', WHERE WHAT IT READS IS OF BULK AT MOST 1048576: true; the input reads as it did. -/
def fnExactAppendJournalUptoRow : OpenClaim := { program := "ytmfmpcagoamffab", sum := "9d37df3ff47a48b1fcfc5d93f7ad2f50919b93882a33379a3863cea1e7b0d747", func := "loop.example/g00263/laws.FnExactAppendJournal", spec := "fnExactAppendJournal", unfollowed := true, recurses := true, apart := false, narrowed := true }
def FnExactAppendJournalUptoSaid : Prop := fnExactAppendJournalUptoRow.holds Try.pinned (OpenSpec.upto fnExactAppendJournalSpec)

/-- 'laws.FnExactSyncJournal', WHERE WHAT IT READS IS OF BULK AT MOST 1048576: true; the input reads as it did. -/
def fnExactSyncJournalUptoRow : OpenClaim := { program := "ytmfmpcagoamffab", sum := "9d37df3ff47a48b1fcfc5d93f7ad2f50919b93882a33379a3863cea1e7b0d747", func := "loop.example/g00263/laws.FnExactSyncJournal", spec := "fnExactSyncJournal", unfollowed := true, recurses := true, apart := false, narrowed := true }
def FnExactSyncJournalUptoSaid : Prop := fnExactSyncJournalUptoRow.holds Try.pinned (OpenSpec.upto fnExactSyncJournalSpec)

/-- 'laws.FnExactCrashJournal', WHERE WHAT IT READS IS OF BULK AT MOST 1048576: true; the input reads as it did. -/
def fnExactCrashJournalUptoRow : OpenClaim := { program := "ytmfmpcagoamffab", sum := "9d37df3ff47a48b1fcfc5d93f7ad2f50919b93882a33379a3863cea1e7b0d747", func := "loop.example/g00263/laws.FnExactCrashJournal", spec := "fnExactCrashJournal", unfollowed := true, recurses := true, apart := false, narrowed := true }
def FnExactCrashJournalUptoSaid : Prop := fnExactCrashJournalUptoRow.holds Try.pinned (OpenSpec.upto fnExactCrashJournalSpec)

/-- 'laws.FnExactCutJournal', WHERE WHAT IT READS IS OF BULK AT MOST 1048576: true; the input reads as it did. -/
def fnExactCutJournalUptoRow : OpenClaim := { program := "ytmfmpcagoamffab", sum := "9d37df3ff47a48b1fcfc5d93f7ad2f50919b93882a33379a3863cea1e7b0d747", func := "loop.example/g00263/laws.FnExactCutJournal", spec := "fnExactCutJournal", unfollowed := true, recurses := true, apart := false, narrowed := true }
def FnExactCutJournalUptoSaid : Prop := fnExactCutJournalUptoRow.holds Try.pinned (OpenSpec.upto fnExactCutJournalSpec)

end Rows
end Go.Proofs.Ytmfmpcagoamffab
