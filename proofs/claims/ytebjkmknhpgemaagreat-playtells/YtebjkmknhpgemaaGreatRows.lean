/-
  No cell of these rows narrows 'for every input' (looked for: loops, veiled, ifaces, maps, wideKeys, modest, calm, conditions, laid).
  DERIVED. THE GIVEN ROWS OF THIS SEAT. 11 by the template 'for every input the law returns true; each argument reads behind the call as it read before'; 0 by the template 'total and deterministic' (their statements: YtebjkmknhpgemaaGreatTotals.lean).
  GIVEN WITH THE SEED: the statements are not yours to turn. If you find one false, say at which input.
  Laid BY PROGRAM, IN A SANDBOX (cutbox-rows.mjs): the forced cells as the released guide's own fill.sh prints them over the translation 80d45d46a153800d… (all of the seat's roots in one cut). By AI agents, Wed Nov 11 2026. No macro, syntax, notation, axiom, sorry.
-/
import Derived.Test.YtebjkmknhpgemaaGreatChecked
import GoSem.Claim
import GoSem.ClaimJoined
import GoSem.ClaimMapViews
import Derived.JoinedTies
import Derived.KernelRfl
namespace Go.Proofs.YtebjkmknhpgemaaGreat
/- THE CELL 'sum', in the pinned program and in every row, IS THE sha256 OF THE DUMP (.gsa) THAT YtebjkmknhpgemaaGreatProg.lean LOADS. Nothing in Lean hashes anything: it is a label: what it is worth is what the hold of that sum in a sandbox is worth. -/
noncomputable def Tryz.pinned : Pinned := { name := "ytebjkmknhpgemaagreat", sum := "80d45d46a153800db52a476b8b00ab0dd4e7e92091ca71a1f374e3921c800d89", checked := Tryz.checked }
namespace Rows
def none {H : Type} : Left H := { results := [], args := [] }

/-- 'marchpastlaw.StepsChecks': WHATEVER THE INPUT: true; the input reads as it did. -/
def stepsChecksSpec : ChangeSpec := { name := "stepsChecks", fn := fun _ => fun
  | [d1, d2, d3] => { results := [.lit (.bool true)], args := [d1, d2, d3] }
  | _ => none }
def stepsChecksRow : OpenClaim := { program := "ytebjkmknhpgemaagreat", sum := "80d45d46a153800db52a476b8b00ab0dd4e7e92091ca71a1f374e3921c800d89", func := "marchpast/marchpastlaw.StepsChecks", spec := "stepsChecks", unfollowed := true, recurses := true, apart := false }
def StepsChecksSaid : Prop := stepsChecksRow.holds Tryz.pinned (OpenSpec.ofChange stepsChecksSpec)

/-- ITS FALSE NEIGHBOUR: 'it returns false'. Refute it at one input. -/
def stepsChecksWrong : ChangeSpec := { name := "stepsChecks", fn := fun _ => fun
  | [d1, d2, d3] => { results := [.lit (.bool false)], args := [d1, d2, d3] }
  | _ => none }
def StepsChecksWrongFalsely : Prop := stepsChecksRow.holds Tryz.pinned (OpenSpec.ofChange stepsChecksWrong)

/-- 'marchpastlaw.StepsCan': WHATEVER THE INPUT: true; the input reads as it did. -/
def stepsCanSpec : ChangeSpec := { name := "stepsCan", fn := fun _ => fun
  | [d1, d2] => { results := [.lit (.bool true)], args := [d1, d2] }
  | _ => none }
def stepsCanRow : OpenClaim := { program := "ytebjkmknhpgemaagreat", sum := "80d45d46a153800db52a476b8b00ab0dd4e7e92091ca71a1f374e3921c800d89", func := "marchpast/marchpastlaw.StepsCan", spec := "stepsCan", unfollowed := true, recurses := true, apart := false }
def StepsCanSaid : Prop := stepsCanRow.holds Tryz.pinned (OpenSpec.ofChange stepsCanSpec)

/-- ITS FALSE NEIGHBOUR: 'it returns false'. Refute it at one input. -/
def stepsCanWrong : ChangeSpec := { name := "stepsCan", fn := fun _ => fun
  | [d1, d2] => { results := [.lit (.bool false)], args := [d1, d2] }
  | _ => none }
def StepsCanWrongFalsely : Prop := stepsCanRow.holds Tryz.pinned (OpenSpec.ofChange stepsCanWrong)

/-- 'marchpastlaw.StepsDoes': WHATEVER THE INPUT: true; the input reads as it did. -/
def stepsDoesSpec : ChangeSpec := { name := "stepsDoes", fn := fun _ => fun
  | [d1, d2, d3] => { results := [.lit (.bool true)], args := [d1, d2, d3] }
  | _ => none }
def stepsDoesRow : OpenClaim := { program := "ytebjkmknhpgemaagreat", sum := "80d45d46a153800db52a476b8b00ab0dd4e7e92091ca71a1f374e3921c800d89", func := "marchpast/marchpastlaw.StepsDoes", spec := "stepsDoes", unfollowed := true, recurses := true, apart := false }
def StepsDoesSaid : Prop := stepsDoesRow.holds Tryz.pinned (OpenSpec.ofChange stepsDoesSpec)

/-- ITS FALSE NEIGHBOUR: 'it returns false'. Refute it at one input. -/
def stepsDoesWrong : ChangeSpec := { name := "stepsDoes", fn := fun _ => fun
  | [d1, d2, d3] => { results := [.lit (.bool false)], args := [d1, d2, d3] }
  | _ => none }
def StepsDoesWrongFalsely : Prop := stepsDoesRow.holds Tryz.pinned (OpenSpec.ofChange stepsDoesWrong)

/-- 'marchpastlaw.StepsRight': WHATEVER THE INPUT: true; the input reads as it did. -/
def stepsRightSpec : ChangeSpec := { name := "stepsRight", fn := fun _ => fun
  | [d1, d2, d3] => { results := [.lit (.bool true)], args := [d1, d2, d3] }
  | _ => none }
def stepsRightRow : OpenClaim := { program := "ytebjkmknhpgemaagreat", sum := "80d45d46a153800db52a476b8b00ab0dd4e7e92091ca71a1f374e3921c800d89", func := "marchpast/marchpastlaw.StepsRight", spec := "stepsRight", unfollowed := true, recurses := true, apart := false }
def StepsRightSaid : Prop := stepsRightRow.holds Tryz.pinned (OpenSpec.ofChange stepsRightSpec)

/-- ITS FALSE NEIGHBOUR: 'it returns false'. Refute it at one input. -/
def stepsRightWrong : ChangeSpec := { name := "stepsRight", fn := fun _ => fun
  | [d1, d2, d3] => { results := [.lit (.bool false)], args := [d1, d2, d3] }
  | _ => none }
def StepsRightWrongFalsely : Prop := stepsRightRow.holds Tryz.pinned (OpenSpec.ofChange stepsRightWrong)

/-- 'marchpastlaw.StepsEither': WHATEVER THE INPUT: true; the input reads as it did. -/
def stepsEitherSpec : ChangeSpec := { name := "stepsEither", fn := fun _ => fun
  | [d1, d2, d3, d4, d5] => { results := [.lit (.bool true)], args := [d1, d2, d3, d4, d5] }
  | _ => none }
def stepsEitherRow : OpenClaim := { program := "ytebjkmknhpgemaagreat", sum := "80d45d46a153800db52a476b8b00ab0dd4e7e92091ca71a1f374e3921c800d89", func := "marchpast/marchpastlaw.StepsEither", spec := "stepsEither", unfollowed := true, recurses := true, apart := false }
def StepsEitherSaid : Prop := stepsEitherRow.holds Tryz.pinned (OpenSpec.ofChange stepsEitherSpec)

/-- ITS FALSE NEIGHBOUR: 'it returns false'. Refute it at one input. -/
def stepsEitherWrong : ChangeSpec := { name := "stepsEither", fn := fun _ => fun
  | [d1, d2, d3, d4, d5] => { results := [.lit (.bool false)], args := [d1, d2, d3, d4, d5] }
  | _ => none }
def StepsEitherWrongFalsely : Prop := stepsEitherRow.holds Tryz.pinned (OpenSpec.ofChange stepsEitherWrong)

/-- 'marchpastlaw.PlayTells': WHATEVER THE INPUT: true; the input reads as it did. -/
def playTellsSpec : ChangeSpec := { name := "playTells", fn := fun _ => fun
  | [d1, d2, d3] => { results := [.lit (.bool true)], args := [d1, d2, d3] }
  | _ => none }
def playTellsRow : OpenClaim := { program := "ytebjkmknhpgemaagreat", sum := "80d45d46a153800db52a476b8b00ab0dd4e7e92091ca71a1f374e3921c800d89", func := "marchpast/marchpastlaw.PlayTells", spec := "playTells", unfollowed := true, recurses := true, apart := false }
def PlayTellsSaid : Prop := playTellsRow.holds Tryz.pinned (OpenSpec.ofChange playTellsSpec)

/-- ITS FALSE NEIGHBOUR: 'it returns false'. Refute it at one input. -/
def playTellsWrong : ChangeSpec := { name := "playTells", fn := fun _ => fun
  | [d1, d2, d3] => { results := [.lit (.bool false)], args := [d1, d2, d3] }
  | _ => none }
def PlayTellsWrongFalsely : Prop := playTellsRow.holds Tryz.pinned (OpenSpec.ofChange playTellsWrong)

/-- 'marchpastlaw.PlayResults': WHATEVER THE INPUT: true; the input reads as it did. -/
def playResultsSpec : ChangeSpec := { name := "playResults", fn := fun _ => fun
  | [d1, d2] => { results := [.lit (.bool true)], args := [d1, d2] }
  | _ => none }
def playResultsRow : OpenClaim := { program := "ytebjkmknhpgemaagreat", sum := "80d45d46a153800db52a476b8b00ab0dd4e7e92091ca71a1f374e3921c800d89", func := "marchpast/marchpastlaw.PlayResults", spec := "playResults", unfollowed := true, recurses := true, apart := false }
def PlayResultsSaid : Prop := playResultsRow.holds Tryz.pinned (OpenSpec.ofChange playResultsSpec)

/-- ITS FALSE NEIGHBOUR: 'it returns false'. Refute it at one input. -/
def playResultsWrong : ChangeSpec := { name := "playResults", fn := fun _ => fun
  | [d1, d2] => { results := [.lit (.bool false)], args := [d1, d2] }
  | _ => none }
def PlayResultsWrongFalsely : Prop := playResultsRow.holds Tryz.pinned (OpenSpec.ofChange playResultsWrong)

/-- 'marchpastlaw.PlaySame': WHATEVER THE INPUT: true; the input reads as it did. -/
def playSameSpec : ChangeSpec := { name := "playSame", fn := fun _ => fun
  | [d1, d2, d3] => { results := [.lit (.bool true)], args := [d1, d2, d3] }
  | _ => none }
def playSameRow : OpenClaim := { program := "ytebjkmknhpgemaagreat", sum := "80d45d46a153800db52a476b8b00ab0dd4e7e92091ca71a1f374e3921c800d89", func := "marchpast/marchpastlaw.PlaySame", spec := "playSame", unfollowed := true, recurses := true, apart := false }
def PlaySameSaid : Prop := playSameRow.holds Tryz.pinned (OpenSpec.ofChange playSameSpec)

/-- ITS FALSE NEIGHBOUR: 'it returns false'. Refute it at one input. -/
def playSameWrong : ChangeSpec := { name := "playSame", fn := fun _ => fun
  | [d1, d2, d3] => { results := [.lit (.bool false)], args := [d1, d2, d3] }
  | _ => none }
def PlaySameWrongFalsely : Prop := playSameRow.holds Tryz.pinned (OpenSpec.ofChange playSameWrong)

/-- 'marchpastlaw.PlayMany': WHATEVER THE INPUT: true; the input reads as it did. -/
def playManySpec : ChangeSpec := { name := "playMany", fn := fun _ => fun
  | [d1, d2, d3, d4] => { results := [.lit (.bool true)], args := [d1, d2, d3, d4] }
  | _ => none }
def playManyRow : OpenClaim := { program := "ytebjkmknhpgemaagreat", sum := "80d45d46a153800db52a476b8b00ab0dd4e7e92091ca71a1f374e3921c800d89", func := "marchpast/marchpastlaw.PlayMany", spec := "playMany", unfollowed := true, recurses := true, apart := false }
def PlayManySaid : Prop := playManyRow.holds Tryz.pinned (OpenSpec.ofChange playManySpec)

/-- ITS FALSE NEIGHBOUR: 'it returns false'. Refute it at one input. -/
def playManyWrong : ChangeSpec := { name := "playMany", fn := fun _ => fun
  | [d1, d2, d3, d4] => { results := [.lit (.bool false)], args := [d1, d2, d3, d4] }
  | _ => none }
def PlayManyWrongFalsely : Prop := playManyRow.holds Tryz.pinned (OpenSpec.ofChange playManyWrong)

/-- 'marchpastlaw.PlayShards': WHATEVER THE INPUT: true; the input reads as it did. -/
def playShardsSpec : ChangeSpec := { name := "playShards", fn := fun _ => fun
  | [d1, d2, d3, d4] => { results := [.lit (.bool true)], args := [d1, d2, d3, d4] }
  | _ => none }
def playShardsRow : OpenClaim := { program := "ytebjkmknhpgemaagreat", sum := "80d45d46a153800db52a476b8b00ab0dd4e7e92091ca71a1f374e3921c800d89", func := "marchpast/marchpastlaw.PlayShards", spec := "playShards", unfollowed := true, recurses := true, apart := false }
def PlayShardsSaid : Prop := playShardsRow.holds Tryz.pinned (OpenSpec.ofChange playShardsSpec)

/-- ITS FALSE NEIGHBOUR: 'it returns false'. Refute it at one input. -/
def playShardsWrong : ChangeSpec := { name := "playShards", fn := fun _ => fun
  | [d1, d2, d3, d4] => { results := [.lit (.bool false)], args := [d1, d2, d3, d4] }
  | _ => none }
def PlayShardsWrongFalsely : Prop := playShardsRow.holds Tryz.pinned (OpenSpec.ofChange playShardsWrong)

/-- 'marchpastlaw.RestStates': WHATEVER THE INPUT: true; the input reads as it did. -/
def restStatesSpec : ChangeSpec := { name := "restStates", fn := fun _ => fun
  | [d1, d2, d3] => { results := [.lit (.bool true)], args := [d1, d2, d3] }
  | _ => none }
def restStatesRow : OpenClaim := { program := "ytebjkmknhpgemaagreat", sum := "80d45d46a153800db52a476b8b00ab0dd4e7e92091ca71a1f374e3921c800d89", func := "marchpast/marchpastlaw.RestStates", spec := "restStates", unfollowed := true, recurses := true, apart := false }
def RestStatesSaid : Prop := restStatesRow.holds Tryz.pinned (OpenSpec.ofChange restStatesSpec)

/-- ITS FALSE NEIGHBOUR: 'it returns false'. Refute it at one input. -/
def restStatesWrong : ChangeSpec := { name := "restStates", fn := fun _ => fun
  | [d1, d2, d3] => { results := [.lit (.bool false)], args := [d1, d2, d3] }
  | _ => none }
def RestStatesWrongFalsely : Prop := restStatesRow.holds Tryz.pinned (OpenSpec.ofChange restStatesWrong)

/- THE SECOND FORM. 'bulk': how many values and letters a reading holds, each counted each time it is reached (what is shared counts as often as it is met; a slice's spare places count too). A statement '..UptoSaid' is the law's where the arguments, and the package variables that the reading takes, are together of bulk at most 1048576: NARROWER than '..Said'. Prove '..Said' where nothing that the law and all that it calls make is longer than what came in: it says more and counts as full. Else prove '..UptoSaid'. A law counts once. -/
mutual
def uptoBulk {H : Type} : DataW H → Nat
  | .lit (.string bytes) => bytes.length + 1
  | .lit _ => 1
  | .nil => 1
  | .ptr d => uptoBulk d + 1
  | .slice elems spare => uptoBulkAll elems + uptoBulkAll spare + 1
  | .agg parts => uptoBulkAll parts + 1
  | .iface _ d => uptoBulk d + 1
  | .map entries => uptoBulkEntries entries + 1
  | .held _ => 1
def uptoBulkAll {H : Type} : List (DataW H) → Nat
  | [] => 0
  | d :: r => uptoBulk d + uptoBulkAll r
def uptoBulkEntries {H : Type} : List (Lit × DataW H) → Nat
  | [] => 0
  | x :: r => uptoBulkEntry x + uptoBulkEntries r
def uptoBulkEntry {H : Type} : Lit × DataW H → Nat
  | (.string bytes, d) => bytes.length + uptoBulk d + 1
  | (_, d) => uptoBulk d + 1
 end
def uptoSmall : (H : Type) → List (DataW H) → Bool := fun _ ds => decide (uptoBulkAll ds ≤ 1048576)
def OpenSpec.upto (s : _root_.Go.ChangeSpec) : _root_.Go.OpenSpec := { _root_.Go.OpenSpec.ofChange s with cond := some uptoSmall }

/-- 'marchpastlaw.StepsChecks', WHERE WHAT IT READS IS OF BULK AT MOST 1048576: true; the input reads as it did. -/
def stepsChecksUptoRow : OpenClaim := { program := "ytebjkmknhpgemaagreat", sum := "80d45d46a153800db52a476b8b00ab0dd4e7e92091ca71a1f374e3921c800d89", func := "marchpast/marchpastlaw.StepsChecks", spec := "stepsChecks", unfollowed := true, recurses := true, apart := false, narrowed := true }
def StepsChecksUptoSaid : Prop := stepsChecksUptoRow.holds Tryz.pinned (OpenSpec.upto stepsChecksSpec)

/-- 'marchpastlaw.StepsCan', WHERE WHAT IT READS IS OF BULK AT MOST 1048576: true; the input reads as it did. -/
def stepsCanUptoRow : OpenClaim := { program := "ytebjkmknhpgemaagreat", sum := "80d45d46a153800db52a476b8b00ab0dd4e7e92091ca71a1f374e3921c800d89", func := "marchpast/marchpastlaw.StepsCan", spec := "stepsCan", unfollowed := true, recurses := true, apart := false, narrowed := true }
def StepsCanUptoSaid : Prop := stepsCanUptoRow.holds Tryz.pinned (OpenSpec.upto stepsCanSpec)

/-- 'marchpastlaw.StepsDoes', WHERE WHAT IT READS IS OF BULK AT MOST 1048576: true; the input reads as it did. -/
def stepsDoesUptoRow : OpenClaim := { program := "ytebjkmknhpgemaagreat", sum := "80d45d46a153800db52a476b8b00ab0dd4e7e92091ca71a1f374e3921c800d89", func := "marchpast/marchpastlaw.StepsDoes", spec := "stepsDoes", unfollowed := true, recurses := true, apart := false, narrowed := true }
def StepsDoesUptoSaid : Prop := stepsDoesUptoRow.holds Tryz.pinned (OpenSpec.upto stepsDoesSpec)

/-- 'marchpastlaw.StepsRight', WHERE WHAT IT READS IS OF BULK AT MOST 1048576: true; the input reads as it did. -/
def stepsRightUptoRow : OpenClaim := { program := "ytebjkmknhpgemaagreat", sum := "80d45d46a153800db52a476b8b00ab0dd4e7e92091ca71a1f374e3921c800d89", func := "marchpast/marchpastlaw.StepsRight", spec := "stepsRight", unfollowed := true, recurses := true, apart := false, narrowed := true }
def StepsRightUptoSaid : Prop := stepsRightUptoRow.holds Tryz.pinned (OpenSpec.upto stepsRightSpec)

/-- 'marchpastlaw.StepsEither', WHERE WHAT IT READS IS OF BULK AT MOST 1048576: true; the input reads as it did. -/
def stepsEitherUptoRow : OpenClaim := { program := "ytebjkmknhpgemaagreat", sum := "80d45d46a153800db52a476b8b00ab0dd4e7e92091ca71a1f374e3921c800d89", func := "marchpast/marchpastlaw.StepsEither", spec := "stepsEither", unfollowed := true, recurses := true, apart := false, narrowed := true }
def StepsEitherUptoSaid : Prop := stepsEitherUptoRow.holds Tryz.pinned (OpenSpec.upto stepsEitherSpec)

/-- 'marchpastlaw.PlayTells', WHERE WHAT IT READS IS OF BULK AT MOST 1048576: true; the input reads as it did. -/
def playTellsUptoRow : OpenClaim := { program := "ytebjkmknhpgemaagreat", sum := "80d45d46a153800db52a476b8b00ab0dd4e7e92091ca71a1f374e3921c800d89", func := "marchpast/marchpastlaw.PlayTells", spec := "playTells", unfollowed := true, recurses := true, apart := false, narrowed := true }
def PlayTellsUptoSaid : Prop := playTellsUptoRow.holds Tryz.pinned (OpenSpec.upto playTellsSpec)

/-- 'marchpastlaw.PlayResults', WHERE WHAT IT READS IS OF BULK AT MOST 1048576: true; the input reads as it did. -/
def playResultsUptoRow : OpenClaim := { program := "ytebjkmknhpgemaagreat", sum := "80d45d46a153800db52a476b8b00ab0dd4e7e92091ca71a1f374e3921c800d89", func := "marchpast/marchpastlaw.PlayResults", spec := "playResults", unfollowed := true, recurses := true, apart := false, narrowed := true }
def PlayResultsUptoSaid : Prop := playResultsUptoRow.holds Tryz.pinned (OpenSpec.upto playResultsSpec)

/-- 'marchpastlaw.PlaySame', WHERE WHAT IT READS IS OF BULK AT MOST 1048576: true; the input reads as it did. -/
def playSameUptoRow : OpenClaim := { program := "ytebjkmknhpgemaagreat", sum := "80d45d46a153800db52a476b8b00ab0dd4e7e92091ca71a1f374e3921c800d89", func := "marchpast/marchpastlaw.PlaySame", spec := "playSame", unfollowed := true, recurses := true, apart := false, narrowed := true }
def PlaySameUptoSaid : Prop := playSameUptoRow.holds Tryz.pinned (OpenSpec.upto playSameSpec)

/-- 'marchpastlaw.PlayMany', WHERE WHAT IT READS IS OF BULK AT MOST 1048576: true; the input reads as it did. -/
def playManyUptoRow : OpenClaim := { program := "ytebjkmknhpgemaagreat", sum := "80d45d46a153800db52a476b8b00ab0dd4e7e92091ca71a1f374e3921c800d89", func := "marchpast/marchpastlaw.PlayMany", spec := "playMany", unfollowed := true, recurses := true, apart := false, narrowed := true }
def PlayManyUptoSaid : Prop := playManyUptoRow.holds Tryz.pinned (OpenSpec.upto playManySpec)

/-- 'marchpastlaw.PlayShards', WHERE WHAT IT READS IS OF BULK AT MOST 1048576: true; the input reads as it did. -/
def playShardsUptoRow : OpenClaim := { program := "ytebjkmknhpgemaagreat", sum := "80d45d46a153800db52a476b8b00ab0dd4e7e92091ca71a1f374e3921c800d89", func := "marchpast/marchpastlaw.PlayShards", spec := "playShards", unfollowed := true, recurses := true, apart := false, narrowed := true }
def PlayShardsUptoSaid : Prop := playShardsUptoRow.holds Tryz.pinned (OpenSpec.upto playShardsSpec)

/-- 'marchpastlaw.RestStates', WHERE WHAT IT READS IS OF BULK AT MOST 1048576: true; the input reads as it did. -/
def restStatesUptoRow : OpenClaim := { program := "ytebjkmknhpgemaagreat", sum := "80d45d46a153800db52a476b8b00ab0dd4e7e92091ca71a1f374e3921c800d89", func := "marchpast/marchpastlaw.RestStates", spec := "restStates", unfollowed := true, recurses := true, apart := false, narrowed := true }
def RestStatesUptoSaid : Prop := restStatesUptoRow.holds Tryz.pinned (OpenSpec.upto restStatesSpec)

end Rows
end Go.Proofs.YtebjkmknhpgemaaGreat
