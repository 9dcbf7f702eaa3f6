/-
  
  Conditions: those that each theorem states.
-/
import Derived.Test.YtebjkmknhpgemaaGreatYStoreD
import Derived.WalkKit
import Derived.WalkSpells
import Derived.WalkLawsBesides
import Derived.Defers
import Derived.Recover
import Derived.ProofKit
import Derived.Deep.RegionHeld
import Derived.Deep.RegionHeld3
import Derived.Deep.DeepCutAuto
import Derived.BigQuiet
import Derived.Maps.AppendAt
import Derived.Lib.SliceRun
namespace Go.Proofs.YtebjkmknhpgemaaGreat
open Go.RowKit
/-- A result, and where its values lie. -/
structure RsA where
  va : Option Addr
  vc : Nat
  d : Bool
  vs : List Int
def r0 : RsA := ⟨none, 0, false, []⟩
end Go.Proofs.YtebjkmknhpgemaaGreat
