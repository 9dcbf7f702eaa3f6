/-
  
  Conditions: those that each theorem states.
-/
import Derived.Test.YtebjkmknhpgemaaGreatUEithA
namespace Go.Proofs.YtebjkmknhpgemaaGreat
open Go.RowKit
def chK (c : Int) (n : Nat) : Nat := if c < 0 then ((-(c + 1)) % (n : Int)).toNat else (c % (n : Int)).toNat
theorem chK_lt (c : Int) {n : Nat} (h : 0 < n) : chK c n < n := by
 unfold chK
 split
 ·have := Int.emod_lt_of_pos (-(c + 1)) (b := (n : Int)) (by omega)
  have := Int.emod_nonneg (-(c + 1)) (b := (n : Int)) (by omega)
  omega
 ·have := Int.emod_lt_of_pos c (b := (n : Int)) (by omega)
  have := Int.emod_nonneg c (b := (n : Int)) (by omega)
  omega
theorem kZ {w : World} {R : Nat} (q : Q4) {u0 u1 u2 u3 : Value} (t0 : w.cell? ⟨R, 0, none⟩ = some u0) (t1 : w.cell? ⟨R, 1, none⟩ = some u1) (t2 : w.cell? ⟨R, 2, none⟩ = some u2) (t3 : w.cell? ⟨R, 3, none⟩ = some u3) : ((((w.setCell ⟨R, 0, none⟩ (.slice q.sa q.sn q.sc)).setCell ⟨R, 1, none⟩ (.slice q.ra q.rn q.rc)).setCell ⟨R, 2, none⟩ (.slice q.wa q.wn q.tc)).setCell ⟨R, 3, none⟩ (.slice q.va q.vn q.vc)).cell? ⟨R, 0, none⟩ = some (.slice q.sa q.sn q.sc) ∧ ((((w.setCell ⟨R, 0, none⟩ (.slice q.sa q.sn q.sc)).setCell ⟨R, 1, none⟩ (.slice q.ra q.rn q.rc)).setCell ⟨R, 2, none⟩ (.slice q.wa q.wn q.tc)).setCell ⟨R, 3, none⟩ (.slice q.va q.vn q.vc)).cell? ⟨R, 1, none⟩ = some (.slice q.ra q.rn q.rc) ∧ ((((w.setCell ⟨R, 0, none⟩ (.slice q.sa q.sn q.sc)).setCell ⟨R, 1, none⟩ (.slice q.ra q.rn q.rc)).setCell ⟨R, 2, none⟩ (.slice q.wa q.wn q.tc)).setCell ⟨R, 3, none⟩ (.slice q.va q.vn q.vc)).cell? ⟨R, 2, none⟩ = some (.slice q.wa q.wn q.tc) ∧ ((((w.setCell ⟨R, 0, none⟩ (.slice q.sa q.sn q.sc)).setCell ⟨R, 1, none⟩ (.slice q.ra q.rn q.rc)).setCell ⟨R, 2, none⟩ (.slice q.wa q.wn q.tc)).setCell ⟨R, 3, none⟩ (.slice q.va q.vn q.vc)).cell? ⟨R, 3, none⟩ = some (.slice q.va q.vn q.vc) := ⟨(aH (by decide) (aH (by decide) (aH (by decide) (aK t0)))), (aH (by decide) (aH (by decide) (aK (aH (by decide) t1)))), (aH (by decide) (aK (aH (by decide) (aH (by decide) t2)))), (aK (aH (by decide) (aH (by decide) (aH (by decide) t3))))⟩
variable (la : Option Addr) (lc : Nat) (l : List TxA) (sa : Option Addr) (sc : Nat) (s : List Int) (pa : Option Addr) (pc : Nat) (pk : List Int)
end Go.Proofs.YtebjkmknhpgemaaGreat
