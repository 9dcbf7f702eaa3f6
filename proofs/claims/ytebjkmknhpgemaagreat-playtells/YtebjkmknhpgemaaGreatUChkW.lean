/-
  
  Conditions: those that each theorem states.
-/
import Derived.Test.YtebjkmknhpgemaaGreatUEithB
import Derived.Test.YtebjkmknhpgemaaGreatUDocG
namespace Go.Proofs.YtebjkmknhpgemaaGreat
open Go.RowKit
theorem small_nil : SNil.st.length ≤ 100 ∧ SNil.rd.length ≤ 100 ∧ SNil.wr.length ≤ 100 ∧ SNil.vs.length ≤ 100 ∧ ∀ i, (SNil.rd.getD i []).length ≤ 100 ∧ (SNil.wr.getD i []).length ≤ 100 ∧ (SNil.vs.getD i []).length ≤ 100 := ⟨Nat.zero_le _, Nat.zero_le _, Nat.zero_le _, Nat.zero_le _, fun _ => ⟨Nat.zero_le _, Nat.zero_le _, Nat.zero_le _⟩⟩
theorem small_st {m : Int} {l : List TxA} {S : SA} (h : eF m l S = 0) : S.st.length ≤ 100 ∧ S.rd.length ≤ 100 ∧ S.wr.length ≤ 100 ∧ S.vs.length ≤ 100 ∧ ∀ i, (S.rd.getD i []).length ≤ 100 ∧ (S.wr.getD i []).length ≤ 100 ∧ (S.vs.getD i []).length ≤ 100 := by
 obtain ⟨sh, rfl, _, h4, hc, _, hf, _⟩ := dL h
 have f := dB.1 hf
 have h8 := dC hc
 refine ⟨by rw [f.st]; omega, by rw [f.rd]; omega, by rw [f.wr]; omega, by rw [f.vs]; omega, fun i => ?_⟩
 by_cases hi : i < l.length
 ·have hr4 : (gX l i).rs.length ≤ 4 := (bK _ _ _ (bZ (cI hc i hi)).1).1
  rw [f.rn i hi, f.wn i hi, f.vn i hi]
  omega
 ·have a1 : S.rd.getD i [] = [] := by simp [List.getD, List.getElem?_eq_none (show S.rd.length ≤ i by rw [f.rd]; omega)]
  have a2 : S.wr.getD i [] = [] := by simp [List.getD, List.getElem?_eq_none (show S.wr.length ≤ i by rw [f.wr]; omega)]
  have a3 : S.vs.getD i [] = [] := by simp [List.getD, List.getElem?_eq_none (show S.vs.length ≤ i by rw [f.vs]; omega)]
  rw [a1, a2, a3]
  simp
variable (la : Option Addr) (lc : Nat) (l : List TxA) (za : Option Addr) (zc : Nat) (s : List Int) (sa ra wa va : Option Addr) (sc rc tc vc : Nat) (S : SA)
end Go.Proofs.YtebjkmknhpgemaaGreat
