/-
  No cell of these rows narrows 'for every input' (looked for: loops, veiled, ifaces, maps, wideKeys, modest, calm, conditions, laid).
  DERIVED. THE GIVEN ROWS OF THIS SEAT. 6 by the template 'for every input the law returns true; each argument reads behind the call as it read before'; 0 by the template 'total and deterministic' (their statements: YtobhbllohafdhaaTotals.lean).
  GIVEN WITH THE SEED: the statements are not yours to turn. If you find one false, say at which input.
  Laid BY PROGRAM, IN A SANDBOX (cutbox-rows.mjs): the forced cells as the released guide's own fill.sh prints them over the translation 001ea803e14a2553… (all of the seat's roots in one cut). By AI agents, Wed Nov 11 2026. No macro, syntax, notation, axiom, sorry.
-/
import Derived.Test.YtobhbllohafdhaaChecked
import GoSem.Claim
import GoSem.ClaimJoined
import GoSem.ClaimMapViews
import Derived.JoinedTies
import Derived.KernelRfl
namespace Go.Proofs.Ytobhbllohafdhaa
/- THE CELL 'sum', in the pinned program and in every row, IS THE sha256 OF THE DUMP (.gsa) THAT YtobhbllohafdhaaProg.lean LOADS. Nothing in Lean hashes anything: it is a label: what it is worth is what the hold of that sum in a sandbox is worth. -/
noncomputable def Try.pinned : Pinned := { name := "ytobhbllohafdhaa", sum := "001ea803e14a25536ad1bdda5e8235ff9e4988296417550d215f099116f0e08a", checked := Try.checked }
namespace Rows
def none {H : Type} : Left H := { results := [], args := [] }

/-- 'marchpastlaw.ValsTells': WHATEVER THE INPUT: true; the input reads as it did. -/
def valsTellsSpec : ChangeSpec := { name := "valsTells", fn := fun _ => fun
  | [d1, d2, d3] => { results := [.lit (.bool true)], args := [d1, d2, d3] }
  | _ => none }
def valsTellsRow : OpenClaim := { program := "ytobhbllohafdhaa", sum := "001ea803e14a25536ad1bdda5e8235ff9e4988296417550d215f099116f0e08a", func := "marchpast/marchpastlaw.ValsTells", spec := "valsTells", unfollowed := true, recurses := true, apart := false }
def ValsTellsSaid : Prop := valsTellsRow.holds Try.pinned (OpenSpec.ofChange valsTellsSpec)

/-- ITS FALSE NEIGHBOUR: 'it returns false'. Refute it at one input. -/
def valsTellsWrong : ChangeSpec := { name := "valsTells", fn := fun _ => fun
  | [d1, d2, d3] => { results := [.lit (.bool false)], args := [d1, d2, d3] }
  | _ => none }
def ValsTellsWrongFalsely : Prop := valsTellsRow.holds Try.pinned (OpenSpec.ofChange valsTellsWrong)

/-- 'marchpastlaw.ValsReckons': WHATEVER THE INPUT: true; the input reads as it did. -/
def valsReckonsSpec : ChangeSpec := { name := "valsReckons", fn := fun _ => fun
  | [d1, d2, d3, d4] => { results := [.lit (.bool true)], args := [d1, d2, d3, d4] }
  | _ => none }
def valsReckonsRow : OpenClaim := { program := "ytobhbllohafdhaa", sum := "001ea803e14a25536ad1bdda5e8235ff9e4988296417550d215f099116f0e08a", func := "marchpast/marchpastlaw.ValsReckons", spec := "valsReckons", unfollowed := true, recurses := true, apart := false }
def ValsReckonsSaid : Prop := valsReckonsRow.holds Try.pinned (OpenSpec.ofChange valsReckonsSpec)

/-- ITS FALSE NEIGHBOUR: 'it returns false'. Refute it at one input. -/
def valsReckonsWrong : ChangeSpec := { name := "valsReckons", fn := fun _ => fun
  | [d1, d2, d3, d4] => { results := [.lit (.bool false)], args := [d1, d2, d3, d4] }
  | _ => none }
def ValsReckonsWrongFalsely : Prop := valsReckonsRow.holds Try.pinned (OpenSpec.ofChange valsReckonsWrong)

/-- 'marchpastlaw.ValsTrue': WHATEVER THE INPUT: true; the input reads as it did. -/
def valsTrueSpec : ChangeSpec := { name := "valsTrue", fn := fun _ => fun
  | [d1, d2] => { results := [.lit (.bool true)], args := [d1, d2] }
  | _ => none }
def valsTrueRow : OpenClaim := { program := "ytobhbllohafdhaa", sum := "001ea803e14a25536ad1bdda5e8235ff9e4988296417550d215f099116f0e08a", func := "marchpast/marchpastlaw.ValsTrue", spec := "valsTrue", unfollowed := true, recurses := true, apart := false }
def ValsTrueSaid : Prop := valsTrueRow.holds Try.pinned (OpenSpec.ofChange valsTrueSpec)

/-- ITS FALSE NEIGHBOUR: 'it returns false'. Refute it at one input. -/
def valsTrueWrong : ChangeSpec := { name := "valsTrue", fn := fun _ => fun
  | [d1, d2] => { results := [.lit (.bool false)], args := [d1, d2] }
  | _ => none }
def ValsTrueWrongFalsely : Prop := valsTrueRow.holds Try.pinned (OpenSpec.ofChange valsTrueWrong)

/-- 'marchpastlaw.TxnChecks': WHATEVER THE INPUT: true; the input reads as it did. -/
def txnChecksSpec : ChangeSpec := { name := "txnChecks", fn := fun _ => fun
  | [d] => { results := [.lit (.bool true)], args := [d] }
  | _ => none }
def txnChecksRow : OpenClaim := { program := "ytobhbllohafdhaa", sum := "001ea803e14a25536ad1bdda5e8235ff9e4988296417550d215f099116f0e08a", func := "marchpast/marchpastlaw.TxnChecks", spec := "txnChecks", unfollowed := true, recurses := true, apart := false }
def TxnChecksSaid : Prop := txnChecksRow.holds Try.pinned (OpenSpec.ofChange txnChecksSpec)

/-- ITS FALSE NEIGHBOUR: 'it returns false'. Refute it at one input. -/
def txnChecksWrong : ChangeSpec := { name := "txnChecks", fn := fun _ => fun
  | [d] => { results := [.lit (.bool false)], args := [d] }
  | _ => none }
def TxnChecksWrongFalsely : Prop := txnChecksRow.holds Try.pinned (OpenSpec.ofChange txnChecksWrong)

/-- 'marchpastlaw.TxnRuns': WHATEVER THE INPUT: true; the input reads as it did. -/
def txnRunsSpec : ChangeSpec := { name := "txnRuns", fn := fun _ => fun
  | [d1, d2] => { results := [.lit (.bool true)], args := [d1, d2] }
  | _ => none }
def txnRunsRow : OpenClaim := { program := "ytobhbllohafdhaa", sum := "001ea803e14a25536ad1bdda5e8235ff9e4988296417550d215f099116f0e08a", func := "marchpast/marchpastlaw.TxnRuns", spec := "txnRuns", unfollowed := true, recurses := true, apart := false }
def TxnRunsSaid : Prop := txnRunsRow.holds Try.pinned (OpenSpec.ofChange txnRunsSpec)

/-- ITS FALSE NEIGHBOUR: 'it returns false'. Refute it at one input. -/
def txnRunsWrong : ChangeSpec := { name := "txnRuns", fn := fun _ => fun
  | [d1, d2] => { results := [.lit (.bool false)], args := [d1, d2] }
  | _ => none }
def TxnRunsWrongFalsely : Prop := txnRunsRow.holds Try.pinned (OpenSpec.ofChange txnRunsWrong)

/-- 'marchpastlaw.TxnTrue': WHATEVER THE INPUT: true; the input reads as it did. -/
def txnTrueSpec : ChangeSpec := { name := "txnTrue", fn := fun _ => fun
  | [d1, d2, d3] => { results := [.lit (.bool true)], args := [d1, d2, d3] }
  | _ => none }
def txnTrueRow : OpenClaim := { program := "ytobhbllohafdhaa", sum := "001ea803e14a25536ad1bdda5e8235ff9e4988296417550d215f099116f0e08a", func := "marchpast/marchpastlaw.TxnTrue", spec := "txnTrue", unfollowed := true, recurses := true, apart := false }
def TxnTrueSaid : Prop := txnTrueRow.holds Try.pinned (OpenSpec.ofChange txnTrueSpec)

/-- ITS FALSE NEIGHBOUR: 'it returns false'. Refute it at one input. -/
def txnTrueWrong : ChangeSpec := { name := "txnTrue", fn := fun _ => fun
  | [d1, d2, d3] => { results := [.lit (.bool false)], args := [d1, d2, d3] }
  | _ => none }
def TxnTrueWrongFalsely : Prop := txnTrueRow.holds Try.pinned (OpenSpec.ofChange txnTrueWrong)

/- THE SECOND FORM. 'bulk': how many values and letters a reading holds, each counted each time it is reached (what is shared counts as often as it is met; a slice's spare places count too). A statement '..UptoSaid' is the law's where the arguments, and the package variables that the reading takes, are together of bulk at most 1048576: NARROWER than '..Said'. Prove '..Said' where nothing that the law and all that it calls make is longer than what came in: it says more and counts as full. Else prove '..UptoSaid'. A law counts once. -/
mutual
def uptoBulk {H : Type} : DataW H → Nat
  | .lit (.string bytes) => bytes.length + 1
  | .lit _ => 1
  | .nil => 1
  | .ptr d => uptoBulk d + 1
  | .slice elems spare => uptoBulkAll elems + uptoBulkAll spare + 1
  | .agg parts => uptoBulkAll parts + 1
  | .iface _ d => uptoBulk d + 1
  | .map entries => uptoBulkEntries entries + 1
  | .held _ => 1
def uptoBulkAll {H : Type} : List (DataW H) → Nat
  | [] => 0
  | d :: r => uptoBulk d + uptoBulkAll r
def uptoBulkEntries {H : Type} : List (Lit × DataW H) → Nat
  | [] => 0
  | x :: r => uptoBulkEntry x + uptoBulkEntries r
def uptoBulkEntry {H : Type} : Lit × DataW H → Nat
  | (.string bytes, d) => bytes.length + uptoBulk d + 1
  | (_, d) => uptoBulk d + 1
 end
def uptoSmall : (H : Type) → List (DataW H) → Bool := fun _ ds => decide (uptoBulkAll ds ≤ 1048576)
def OpenSpec.upto (s : _root_.Go.ChangeSpec) : _root_.Go.OpenSpec := { _root_.Go.OpenSpec.ofChange s with cond := some uptoSmall }

/-- 'marchpastlaw.ValsTells', WHERE WHAT IT READS IS OF BULK AT MOST 1048576: true; the input reads as it did. -/
def valsTellsUptoRow : OpenClaim := { program := "ytobhbllohafdhaa", sum := "001ea803e14a25536ad1bdda5e8235ff9e4988296417550d215f099116f0e08a", func := "marchpast/marchpastlaw.ValsTells", spec := "valsTells", unfollowed := true, recurses := true, apart := false, narrowed := true }
def ValsTellsUptoSaid : Prop := valsTellsUptoRow.holds Try.pinned (OpenSpec.upto valsTellsSpec)

/-- 'marchpastlaw.ValsReckons', WHERE WHAT IT READS IS OF BULK AT MOST 1048576: true; the input reads as it did. -/
def valsReckonsUptoRow : OpenClaim := { program := "ytobhbllohafdhaa", sum := "001ea803e14a25536ad1bdda5e8235ff9e4988296417550d215f099116f0e08a", func := "marchpast/marchpastlaw.ValsReckons", spec := "valsReckons", unfollowed := true, recurses := true, apart := false, narrowed := true }
def ValsReckonsUptoSaid : Prop := valsReckonsUptoRow.holds Try.pinned (OpenSpec.upto valsReckonsSpec)

/-- 'marchpastlaw.ValsTrue', WHERE WHAT IT READS IS OF BULK AT MOST 1048576: true; the input reads as it did. -/
def valsTrueUptoRow : OpenClaim := { program := "ytobhbllohafdhaa", sum := "001ea803e14a25536ad1bdda5e8235ff9e4988296417550d215f099116f0e08a", func := "marchpast/marchpastlaw.ValsTrue", spec := "valsTrue", unfollowed := true, recurses := true, apart := false, narrowed := true }
def ValsTrueUptoSaid : Prop := valsTrueUptoRow.holds Try.pinned (OpenSpec.upto valsTrueSpec)

/-- 'marchpastlaw.TxnChecks', WHERE WHAT IT READS IS OF BULK AT MOST 1048576: true; the input reads as it did. -/
def txnChecksUptoRow : OpenClaim := { program := "ytobhbllohafdhaa", sum := "001ea803e14a25536ad1bdda5e8235ff9e4988296417550d215f099116f0e08a", func := "marchpast/marchpastlaw.TxnChecks", spec := "txnChecks", unfollowed := true, recurses := true, apart := false, narrowed := true }
def TxnChecksUptoSaid : Prop := txnChecksUptoRow.holds Try.pinned (OpenSpec.upto txnChecksSpec)

/-- 'marchpastlaw.TxnRuns', WHERE WHAT IT READS IS OF BULK AT MOST 1048576: true; the input reads as it did. -/
def txnRunsUptoRow : OpenClaim := { program := "ytobhbllohafdhaa", sum := "001ea803e14a25536ad1bdda5e8235ff9e4988296417550d215f099116f0e08a", func := "marchpast/marchpastlaw.TxnRuns", spec := "txnRuns", unfollowed := true, recurses := true, apart := false, narrowed := true }
def TxnRunsUptoSaid : Prop := txnRunsUptoRow.holds Try.pinned (OpenSpec.upto txnRunsSpec)

/-- 'marchpastlaw.TxnTrue', WHERE WHAT IT READS IS OF BULK AT MOST 1048576: true; the input reads as it did. -/
def txnTrueUptoRow : OpenClaim := { program := "ytobhbllohafdhaa", sum := "001ea803e14a25536ad1bdda5e8235ff9e4988296417550d215f099116f0e08a", func := "marchpast/marchpastlaw.TxnTrue", spec := "txnTrue", unfollowed := true, recurses := true, apart := false, narrowed := true }
def TxnTrueUptoSaid : Prop := txnTrueUptoRow.holds Try.pinned (OpenSpec.upto txnTrueSpec)

end Rows
end Go.Proofs.Ytobhbllohafdhaa
