/-
  The three transactions of the statements' own plan, and what is told of them.
  Conditions: none.
-/
import Derived.Test.YtfogphljilgogaaPlaceF
namespace Go.Proofs.Ytfogphljilgogaa
open Go.RowKit

section
variable (ra ga sa ra2 sa2 sa3 : Option Addr) (rc gc sc rc2 sc2 sc3 : Nat)
abbrev thr : List TxA := [xPay ra ga sa rc gc sc, xNote ra2 sa2 rc2 sc2, xMark 9 sa3 sc3]
theorem thrC : chkTx [] [] [sMark 9] = 0 := by decide
theorem thrP : planE 2 (thr ra ga sa ra2 sa2 sa3 rc gc sc rc2 sc2 sc3) = 0 := by
  show firstNZ [chkTx [0, 1] [gPay 3] [s1Pay 3, s2Pay 3], chkTx [1] [] [sNote], chkTx [] [] [sMark 9]] = 0
  rw [pE, nE, thrC]
  rfl
theorem thrE (n : Int) : pnE 2 (thr ra ga sa ra2 sa2 sa3 rc gc sc rc2 sc2 sc3) n = noneE n 3 := by
  unfold pnE
  rw [thrP]
  show (if noneE n 3 = 0 then 0 else noneE n 3) = noneE n 3
  by_cases c : noneE n 3 = 0
  · rw [if_pos c, c]
  · rw [if_neg c]
theorem thrE0 : pnE 2 (thr ra ga sa ra2 sa2 sa3 rc gc sc rc2 sc2 sc3) 0 = 0 := by rw [thrE]; decide
theorem thrE2 : pnE 2 (thr ra ga sa ra2 sa2 sa3 rc gc sc rc2 sc2 sc3) 2 = 0 := by rw [thrE]; decide
theorem thrE3 : pnE 2 (thr ra ga sa ra2 sa2 sa3 rc gc sc rc2 sc2 sc3) 3 = 5 := by rw [thrE]; decide
theorem thrA : partL 2 (thr ra ga sa ra2 sa2 sa3 rc gc sc rc2 sc2 sc3) 0 = [true, true] := by
  unfold partL
  rw [if_pos (thrE0 ra ga sa ra2 sa2 sa3 rc gc sc rc2 sc2 sc3)]
  show marks 2 (keysIn (lkTo [0, 1] (keysOf [s1Pay 3, s2Pay 3]) 8)) = _
  decide +kernel
theorem thrB : activeL 2 (thr ra ga sa ra2 sa2 sa3 rc gc sc rc2 sc2 sc3) 2 = [false, true] := by
  unfold activeL
  rw [if_pos (thrE2 ra ga sa ra2 sa2 sa3 rc gc sc rc2 sc2 sc3)]
  show marks 2 (setsIn (lkTo [] (keysOf [sMark 9]) 8)) = _
  decide +kernel
theorem thrN : partL 2 (thr ra ga sa ra2 sa2 sa3 rc gc sc rc2 sc2 sc3) 3 = [] := by
  unfold partL
  rw [if_neg (by rw [thrE]; decide)]
theorem thrS : shardE 2 (thr ra ga sa ra2 sa2 sa3 rc gc sc rc2 sc2 sc3) 5 = 0 := by
  unfold shardE
  rw [thrP]
  decide
theorem thrV : shardV 2 (thr ra ga sa ra2 sa2 sa3 rc gc sc rc2 sc2 sc3) 5 = 1 := by
  unfold shardV
  rw [thrS]
  decide
end
end Go.Proofs.Ytfogphljilgogaa
