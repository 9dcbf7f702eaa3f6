/-
  No cell of these rows narrows 'for every input' (looked for: loops, veiled, ifaces, maps, wideKeys, modest, calm, conditions, laid).
  DERIVED. THE GIVEN ROWS OF THIS SEAT. 8 by the template 'for every input the law returns true; each argument reads behind the call as it read before'; 0 by the template 'total and deterministic' (their statements: YtikolifbljnokaaTotals.lean).
  GIVEN WITH THE SEED: the statements are not yours to turn. If you find one false, say at which input.
  Laid BY PROGRAM, IN A SANDBOX (cutbox-rows.mjs): the forced cells as the released guide's own fill.sh prints them over the translation 142d9b9cd02f8061… (all of the seat's roots in one cut). By AI agents, Wed Nov 11 2026. No macro, syntax, notation, axiom, sorry.
-/
import Derived.Test.YtikolifbljnokaaChecked
import GoSem.Claim
import GoSem.ClaimJoined
import GoSem.ClaimMapViews
import Derived.JoinedTies
import Derived.KernelRfl
namespace Go.Proofs.Ytikolifbljnokaa
/- THE CELL 'sum', in the pinned program and in every row, IS THE sha256 OF THE DUMP (.gsa) THAT YtikolifbljnokaaProg.lean LOADS. Nothing in Lean hashes anything: it is a label: what it is worth is what the hold of that sum in a sandbox is worth. -/
noncomputable def Try.pinned : Pinned := { name := "ytikolifbljnokaa", sum := "142d9b9cd02f80611e2315789f6fd587d5a94066f580274b1165515bb8ec4768", checked := Try.checked }
namespace Rows
def none {H : Type} : Left H := { results := [], args := [] }

/-- 'marchpastlaw.GraphTells': WHATEVER THE INPUT: true; the input reads as it did. -/
def graphTellsSpec : ChangeSpec := { name := "graphTells", fn := fun _ => fun
  | [d1, d2, d3, d4] => { results := [.lit (.bool true)], args := [d1, d2, d3, d4] }
  | _ => none }
def graphTellsRow : OpenClaim := { program := "ytikolifbljnokaa", sum := "142d9b9cd02f80611e2315789f6fd587d5a94066f580274b1165515bb8ec4768", func := "marchpast/marchpastlaw.GraphTells", spec := "graphTells", unfollowed := true, recurses := true, apart := false }
def GraphTellsSaid : Prop := graphTellsRow.holds Try.pinned (OpenSpec.ofChange graphTellsSpec)

/-- ITS FALSE NEIGHBOUR: 'it returns false'. Refute it at one input. -/
def graphTellsWrong : ChangeSpec := { name := "graphTells", fn := fun _ => fun
  | [d1, d2, d3, d4] => { results := [.lit (.bool false)], args := [d1, d2, d3, d4] }
  | _ => none }
def GraphTellsWrongFalsely : Prop := graphTellsRow.holds Try.pinned (OpenSpec.ofChange graphTellsWrong)

/-- 'marchpastlaw.GraphTrue': WHATEVER THE INPUT: true; the input reads as it did. -/
def graphTrueSpec : ChangeSpec := { name := "graphTrue", fn := fun _ => fun
  | [d1, d2, d3] => { results := [.lit (.bool true)], args := [d1, d2, d3] }
  | _ => none }
def graphTrueRow : OpenClaim := { program := "ytikolifbljnokaa", sum := "142d9b9cd02f80611e2315789f6fd587d5a94066f580274b1165515bb8ec4768", func := "marchpast/marchpastlaw.GraphTrue", spec := "graphTrue", unfollowed := true, recurses := true, apart := false }
def GraphTrueSaid : Prop := graphTrueRow.holds Try.pinned (OpenSpec.ofChange graphTrueSpec)

/-- ITS FALSE NEIGHBOUR: 'it returns false'. Refute it at one input. -/
def graphTrueWrong : ChangeSpec := { name := "graphTrue", fn := fun _ => fun
  | [d1, d2, d3] => { results := [.lit (.bool false)], args := [d1, d2, d3] }
  | _ => none }
def GraphTrueWrongFalsely : Prop := graphTrueRow.holds Try.pinned (OpenSpec.ofChange graphTrueWrong)

/-- 'marchpastlaw.GraphSame': WHATEVER THE INPUT: true; the input reads as it did. -/
def graphSameSpec : ChangeSpec := { name := "graphSame", fn := fun _ => fun
  | [d1, d2, d3] => { results := [.lit (.bool true)], args := [d1, d2, d3] }
  | _ => none }
def graphSameRow : OpenClaim := { program := "ytikolifbljnokaa", sum := "142d9b9cd02f80611e2315789f6fd587d5a94066f580274b1165515bb8ec4768", func := "marchpast/marchpastlaw.GraphSame", spec := "graphSame", unfollowed := true, recurses := true, apart := false }
def GraphSameSaid : Prop := graphSameRow.holds Try.pinned (OpenSpec.ofChange graphSameSpec)

/-- ITS FALSE NEIGHBOUR: 'it returns false'. Refute it at one input. -/
def graphSameWrong : ChangeSpec := { name := "graphSame", fn := fun _ => fun
  | [d1, d2, d3] => { results := [.lit (.bool false)], args := [d1, d2, d3] }
  | _ => none }
def GraphSameWrongFalsely : Prop := graphSameRow.holds Try.pinned (OpenSpec.ofChange graphSameWrong)

/-- 'marchpastlaw.LocksTells': WHATEVER THE INPUT: true; the input reads as it did. -/
def locksTellsSpec : ChangeSpec := { name := "locksTells", fn := fun _ => fun
  | [d1, d2, d3] => { results := [.lit (.bool true)], args := [d1, d2, d3] }
  | _ => none }
def locksTellsRow : OpenClaim := { program := "ytikolifbljnokaa", sum := "142d9b9cd02f80611e2315789f6fd587d5a94066f580274b1165515bb8ec4768", func := "marchpast/marchpastlaw.LocksTells", spec := "locksTells", unfollowed := true, recurses := true, apart := false }
def LocksTellsSaid : Prop := locksTellsRow.holds Try.pinned (OpenSpec.ofChange locksTellsSpec)

/-- ITS FALSE NEIGHBOUR: 'it returns false'. Refute it at one input. -/
def locksTellsWrong : ChangeSpec := { name := "locksTells", fn := fun _ => fun
  | [d1, d2, d3] => { results := [.lit (.bool false)], args := [d1, d2, d3] }
  | _ => none }
def LocksTellsWrongFalsely : Prop := locksTellsRow.holds Try.pinned (OpenSpec.ofChange locksTellsWrong)

/-- 'marchpastlaw.LocksTrue': WHATEVER THE INPUT: true; the input reads as it did. -/
def locksTrueSpec : ChangeSpec := { name := "locksTrue", fn := fun _ => fun
  | [d1, d2] => { results := [.lit (.bool true)], args := [d1, d2] }
  | _ => none }
def locksTrueRow : OpenClaim := { program := "ytikolifbljnokaa", sum := "142d9b9cd02f80611e2315789f6fd587d5a94066f580274b1165515bb8ec4768", func := "marchpast/marchpastlaw.LocksTrue", spec := "locksTrue", unfollowed := true, recurses := true, apart := false }
def LocksTrueSaid : Prop := locksTrueRow.holds Try.pinned (OpenSpec.ofChange locksTrueSpec)

/-- ITS FALSE NEIGHBOUR: 'it returns false'. Refute it at one input. -/
def locksTrueWrong : ChangeSpec := { name := "locksTrue", fn := fun _ => fun
  | [d1, d2] => { results := [.lit (.bool false)], args := [d1, d2] }
  | _ => none }
def LocksTrueWrongFalsely : Prop := locksTrueRow.holds Try.pinned (OpenSpec.ofChange locksTrueWrong)

/-- 'marchpastlaw.LocksMore': WHATEVER THE INPUT: true; the input reads as it did. -/
def locksMoreSpec : ChangeSpec := { name := "locksMore", fn := fun _ => fun
  | [d1, d2, d3] => { results := [.lit (.bool true)], args := [d1, d2, d3] }
  | _ => none }
def locksMoreRow : OpenClaim := { program := "ytikolifbljnokaa", sum := "142d9b9cd02f80611e2315789f6fd587d5a94066f580274b1165515bb8ec4768", func := "marchpast/marchpastlaw.LocksMore", spec := "locksMore", unfollowed := true, recurses := true, apart := false }
def LocksMoreSaid : Prop := locksMoreRow.holds Try.pinned (OpenSpec.ofChange locksMoreSpec)

/-- ITS FALSE NEIGHBOUR: 'it returns false'. Refute it at one input. -/
def locksMoreWrong : ChangeSpec := { name := "locksMore", fn := fun _ => fun
  | [d1, d2, d3] => { results := [.lit (.bool false)], args := [d1, d2, d3] }
  | _ => none }
def LocksMoreWrongFalsely : Prop := locksMoreRow.holds Try.pinned (OpenSpec.ofChange locksMoreWrong)

/-- 'marchpastlaw.RunSame': WHATEVER THE INPUT: true; the input reads as it did. -/
def runSameSpec : ChangeSpec := { name := "runSame", fn := fun _ => fun
  | [d1, d2, d3] => { results := [.lit (.bool true)], args := [d1, d2, d3] }
  | _ => none }
def runSameRow : OpenClaim := { program := "ytikolifbljnokaa", sum := "142d9b9cd02f80611e2315789f6fd587d5a94066f580274b1165515bb8ec4768", func := "marchpast/marchpastlaw.RunSame", spec := "runSame", unfollowed := true, recurses := true, apart := false }
def RunSameSaid : Prop := runSameRow.holds Try.pinned (OpenSpec.ofChange runSameSpec)

/-- ITS FALSE NEIGHBOUR: 'it returns false'. Refute it at one input. -/
def runSameWrong : ChangeSpec := { name := "runSame", fn := fun _ => fun
  | [d1, d2, d3] => { results := [.lit (.bool false)], args := [d1, d2, d3] }
  | _ => none }
def RunSameWrongFalsely : Prop := runSameRow.holds Try.pinned (OpenSpec.ofChange runSameWrong)

/-- 'marchpastlaw.RunMade': WHATEVER THE INPUT: true; the input reads as it did. -/
def runMadeSpec : ChangeSpec := { name := "runMade", fn := fun _ => fun
  | [d1, d2, d3] => { results := [.lit (.bool true)], args := [d1, d2, d3] }
  | _ => none }
def runMadeRow : OpenClaim := { program := "ytikolifbljnokaa", sum := "142d9b9cd02f80611e2315789f6fd587d5a94066f580274b1165515bb8ec4768", func := "marchpast/marchpastlaw.RunMade", spec := "runMade", unfollowed := true, recurses := true, apart := false }
def RunMadeSaid : Prop := runMadeRow.holds Try.pinned (OpenSpec.ofChange runMadeSpec)

/-- ITS FALSE NEIGHBOUR: 'it returns false'. Refute it at one input. -/
def runMadeWrong : ChangeSpec := { name := "runMade", fn := fun _ => fun
  | [d1, d2, d3] => { results := [.lit (.bool false)], args := [d1, d2, d3] }
  | _ => none }
def RunMadeWrongFalsely : Prop := runMadeRow.holds Try.pinned (OpenSpec.ofChange runMadeWrong)

/- THE SECOND FORM. 'bulk': how many values and letters a reading holds, each counted each time it is reached (what is shared counts as often as it is met; a slice's spare places count too). A statement '..UptoSaid' is the law's where the arguments, and the package variables that the reading takes, are together of bulk at most 1048576: NARROWER than '..Said'. Prove '..Said' where nothing that the law and all that it calls make is longer than what came in: it says more and counts as full. Else prove '..UptoSaid'. A law counts once. -/
mutual
def uptoBulk {H : Type} : DataW H → Nat
  | .lit (.string bytes) => bytes.length + 1
  | .lit _ => 1
  | .nil => 1
  | .ptr d => uptoBulk d + 1
  | .slice elems spare => uptoBulkAll elems + uptoBulkAll spare + 1
  | .agg parts => uptoBulkAll parts + 1
  | .iface _ d => uptoBulk d + 1
  | .map entries => uptoBulkEntries entries + 1
  | .held _ => 1
def uptoBulkAll {H : Type} : List (DataW H) → Nat
  | [] => 0
  | d :: r => uptoBulk d + uptoBulkAll r
def uptoBulkEntries {H : Type} : List (Lit × DataW H) → Nat
  | [] => 0
  | x :: r => uptoBulkEntry x + uptoBulkEntries r
def uptoBulkEntry {H : Type} : Lit × DataW H → Nat
  | (.string bytes, d) => bytes.length + uptoBulk d + 1
  | (_, d) => uptoBulk d + 1
 end
def uptoSmall : (H : Type) → List (DataW H) → Bool := fun _ ds => decide (uptoBulkAll ds ≤ 1048576)
def OpenSpec.upto (s : _root_.Go.ChangeSpec) : _root_.Go.OpenSpec := { _root_.Go.OpenSpec.ofChange s with cond := some uptoSmall }

/-- 'marchpastlaw.GraphTells', WHERE WHAT IT READS IS OF BULK AT MOST 1048576: true; the input reads as it did. -/
def graphTellsUptoRow : OpenClaim := { program := "ytikolifbljnokaa", sum := "142d9b9cd02f80611e2315789f6fd587d5a94066f580274b1165515bb8ec4768", func := "marchpast/marchpastlaw.GraphTells", spec := "graphTells", unfollowed := true, recurses := true, apart := false, narrowed := true }
def GraphTellsUptoSaid : Prop := graphTellsUptoRow.holds Try.pinned (OpenSpec.upto graphTellsSpec)

/-- 'marchpastlaw.GraphTrue', WHERE WHAT IT READS IS OF BULK AT MOST 1048576: true; the input reads as it did. -/
def graphTrueUptoRow : OpenClaim := { program := "ytikolifbljnokaa", sum := "142d9b9cd02f80611e2315789f6fd587d5a94066f580274b1165515bb8ec4768", func := "marchpast/marchpastlaw.GraphTrue", spec := "graphTrue", unfollowed := true, recurses := true, apart := false, narrowed := true }
def GraphTrueUptoSaid : Prop := graphTrueUptoRow.holds Try.pinned (OpenSpec.upto graphTrueSpec)

/-- 'marchpastlaw.GraphSame', WHERE WHAT IT READS IS OF BULK AT MOST 1048576: true; the input reads as it did. -/
def graphSameUptoRow : OpenClaim := { program := "ytikolifbljnokaa", sum := "142d9b9cd02f80611e2315789f6fd587d5a94066f580274b1165515bb8ec4768", func := "marchpast/marchpastlaw.GraphSame", spec := "graphSame", unfollowed := true, recurses := true, apart := false, narrowed := true }
def GraphSameUptoSaid : Prop := graphSameUptoRow.holds Try.pinned (OpenSpec.upto graphSameSpec)

/-- 'marchpastlaw.LocksTells', WHERE WHAT IT READS IS OF BULK AT MOST 1048576: true; the input reads as it did. -/
def locksTellsUptoRow : OpenClaim := { program := "ytikolifbljnokaa", sum := "142d9b9cd02f80611e2315789f6fd587d5a94066f580274b1165515bb8ec4768", func := "marchpast/marchpastlaw.LocksTells", spec := "locksTells", unfollowed := true, recurses := true, apart := false, narrowed := true }
def LocksTellsUptoSaid : Prop := locksTellsUptoRow.holds Try.pinned (OpenSpec.upto locksTellsSpec)

/-- 'marchpastlaw.LocksTrue', WHERE WHAT IT READS IS OF BULK AT MOST 1048576: true; the input reads as it did. -/
def locksTrueUptoRow : OpenClaim := { program := "ytikolifbljnokaa", sum := "142d9b9cd02f80611e2315789f6fd587d5a94066f580274b1165515bb8ec4768", func := "marchpast/marchpastlaw.LocksTrue", spec := "locksTrue", unfollowed := true, recurses := true, apart := false, narrowed := true }
def LocksTrueUptoSaid : Prop := locksTrueUptoRow.holds Try.pinned (OpenSpec.upto locksTrueSpec)

/-- 'marchpastlaw.LocksMore', WHERE WHAT IT READS IS OF BULK AT MOST 1048576: true; the input reads as it did. -/
def locksMoreUptoRow : OpenClaim := { program := "ytikolifbljnokaa", sum := "142d9b9cd02f80611e2315789f6fd587d5a94066f580274b1165515bb8ec4768", func := "marchpast/marchpastlaw.LocksMore", spec := "locksMore", unfollowed := true, recurses := true, apart := false, narrowed := true }
def LocksMoreUptoSaid : Prop := locksMoreUptoRow.holds Try.pinned (OpenSpec.upto locksMoreSpec)

/-- 'marchpastlaw.RunSame', WHERE WHAT IT READS IS OF BULK AT MOST 1048576: true; the input reads as it did. -/
def runSameUptoRow : OpenClaim := { program := "ytikolifbljnokaa", sum := "142d9b9cd02f80611e2315789f6fd587d5a94066f580274b1165515bb8ec4768", func := "marchpast/marchpastlaw.RunSame", spec := "runSame", unfollowed := true, recurses := true, apart := false, narrowed := true }
def RunSameUptoSaid : Prop := runSameUptoRow.holds Try.pinned (OpenSpec.upto runSameSpec)

/-- 'marchpastlaw.RunMade', WHERE WHAT IT READS IS OF BULK AT MOST 1048576: true; the input reads as it did. -/
def runMadeUptoRow : OpenClaim := { program := "ytikolifbljnokaa", sum := "142d9b9cd02f80611e2315789f6fd587d5a94066f580274b1165515bb8ec4768", func := "marchpast/marchpastlaw.RunMade", spec := "runMade", unfollowed := true, recurses := true, apart := false, narrowed := true }
def RunMadeUptoSaid : Prop := runMadeUptoRow.holds Try.pinned (OpenSpec.upto runMadeSpec)

end Rows
end Go.Proofs.Ytikolifbljnokaa
