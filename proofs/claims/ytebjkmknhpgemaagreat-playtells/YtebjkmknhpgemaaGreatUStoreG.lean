/-
  
  Conditions: those that each theorem states.
-/
import Derived.Test.YtebjkmknhpgemaaGreatUStoreF
namespace Go.Proofs.YtebjkmknhpgemaaGreat
open Go.RowKit
def dZ (s : List Int) : Int := if s.length = 8 then 0 else 1
theorem eS (s : List Int) (sa : Option Addr) (sc : Nat) (w : World) :
  Calls Tryz.prog 45 #[.slice sa s.length sc] w fun e w' => e = .returned (.int .i64 (dZ s)) ∧ w' = w := nV s sa sc w
def serE (s : List Int) (l : List TxA) : Int := aF [dZ s, fL l]
variable (sa la : Option Addr) (sc lc : Nat) (s : List Int) (l : List TxA)
end Go.Proofs.YtebjkmknhpgemaaGreat
