/-
  
  Conditions: those that each theorem states.
-/
import Derived.Test.YtebjkmknhpgemaaGreatYEithA
import Derived.Test.YtebjkmknhpgemaaGreatYPlaceF
import Derived.WalkKit
import Derived.WalkSpells
import Derived.WalkLawsBesides
import Derived.Defers
import Derived.Recover
import Derived.ProofKit
import Derived.Deep.RegionHeld
import Derived.Deep.RegionHeld3
import Derived.Deep.RegionLaw
import Derived.Deep.DeepCutAuto
import Derived.Deep.QuietTactic
import Derived.BigQuiet
import Derived.Maps.AppendAt
import Derived.Lib.SliceRun
import Derived.Deep.AppendLies
import Derived.OpenShut
import Derived.ChangeOld
import Derived.Deep.Slices
import Derived.Deep.Strs
import Derived.Lib.SmallJoins
namespace Go.Proofs.YtebjkmknhpgemaaGreat
open Go.RowKit
/-- A state that is stored into a cell of four. -/
theorem put4 {w : World} {R : Nat} (q : Q4) {u0 u1 u2 u3 : Value} (t0 : w.cell? ⟨R, 0, none⟩ = some u0) (t1 : w.cell? ⟨R, 1, none⟩ = some u1) (t2 : w.cell? ⟨R, 2, none⟩ = some u2) (t3 : w.cell? ⟨R, 3, none⟩ = some u3) : ((((w.setCell ⟨R, 0, none⟩ (.slice q.sa q.sn q.sc)).setCell ⟨R, 1, none⟩ (.slice q.ra q.rn q.rc)).setCell ⟨R, 2, none⟩ (.slice q.wa q.wn q.tc)).setCell ⟨R, 3, none⟩ (.slice q.va q.vn q.vc)).cell? ⟨R, 0, none⟩ = some (.slice q.sa q.sn q.sc) ∧ ((((w.setCell ⟨R, 0, none⟩ (.slice q.sa q.sn q.sc)).setCell ⟨R, 1, none⟩ (.slice q.ra q.rn q.rc)).setCell ⟨R, 2, none⟩ (.slice q.wa q.wn q.tc)).setCell ⟨R, 3, none⟩ (.slice q.va q.vn q.vc)).cell? ⟨R, 1, none⟩ = some (.slice q.ra q.rn q.rc) ∧ ((((w.setCell ⟨R, 0, none⟩ (.slice q.sa q.sn q.sc)).setCell ⟨R, 1, none⟩ (.slice q.ra q.rn q.rc)).setCell ⟨R, 2, none⟩ (.slice q.wa q.wn q.tc)).setCell ⟨R, 3, none⟩ (.slice q.va q.vn q.vc)).cell? ⟨R, 2, none⟩ = some (.slice q.wa q.wn q.tc) ∧ ((((w.setCell ⟨R, 0, none⟩ (.slice q.sa q.sn q.sc)).setCell ⟨R, 1, none⟩ (.slice q.ra q.rn q.rc)).setCell ⟨R, 2, none⟩ (.slice q.wa q.wn q.tc)).setCell ⟨R, 3, none⟩ (.slice q.va q.vn q.vc)).cell? ⟨R, 3, none⟩ = some (.slice q.va q.vn q.vc) := ⟨(set_off (by decide) (set_off (by decide) (set_off (by decide) (set_here t0)))), (set_off (by decide) (set_off (by decide) (set_here (set_off (by decide) t1)))), (set_off (by decide) (set_here (set_off (by decide) (set_off (by decide) t2)))), (set_here (set_off (by decide) (set_off (by decide) (set_off (by decide) t3))))⟩
variable (la : Option Addr) (lc : Nat) (l : List TxA) (sa : Option Addr) (sc : Nat) (s : List Int) (pa : Option Addr) (pc : Nat) (pk : List Int)
end Go.Proofs.YtebjkmknhpgemaaGreat
