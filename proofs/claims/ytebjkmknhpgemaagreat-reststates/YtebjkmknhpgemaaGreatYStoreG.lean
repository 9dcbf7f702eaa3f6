/-
  
  Conditions: those that each theorem states.
-/
import Derived.Test.YtebjkmknhpgemaaGreatYStoreF
import Derived.WalkKit
import Derived.WalkSpells
import Derived.WalkLawsBesides
import Derived.Defers
import Derived.Recover
import Derived.ProofKit
import Derived.Deep.RegionHeld
import Derived.Deep.RegionHeld3
import Derived.Deep.DeepCutAuto
import Derived.BigQuiet
namespace Go.Proofs.YtebjkmknhpgemaaGreat
open Go.RowKit
/-- The error of a store. -/
def lenE (s : List Int) : Int := if s.length = 8 then 0 else 1
theorem storeCheck_e (s : List Int) (sa : Option Addr) (sc : Nat) (w : World) :
    Calls Tryz.prog 45 #[.slice sa s.length sc] w fun e w' => e = .returned (.int .i64 (lenE s)) ∧ w' = w := storeCheck_any s sa sc w
variable (sa la : Option Addr) (sc lc : Nat) (s : List Int) (l : List TxA)
end Go.Proofs.YtebjkmknhpgemaaGreat
