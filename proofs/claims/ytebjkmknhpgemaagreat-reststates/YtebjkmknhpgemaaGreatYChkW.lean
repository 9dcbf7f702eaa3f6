/-
  
  Conditions: those that each theorem states.
-/
import Derived.Test.YtebjkmknhpgemaaGreatYDocG
import Derived.Test.YtebjkmknhpgemaaGreatYDocF
import Derived.Test.YtebjkmknhpgemaaGreatYDocC
import Derived.Test.YtebjkmknhpgemaaGreatYRunC
import Derived.Test.YtebjkmknhpgemaaGreatYSameA
import Derived.Test.YtebjkmknhpgemaaGreatYEithA
import Derived.Test.YtebjkmknhpgemaaGreatYEithB
import Derived.WalkKit
import Derived.WalkSpells
import Derived.WalkLawsBesides
import Derived.Defers
import Derived.Recover
import Derived.ProofKit
import Derived.Deep.RegionHeld
import Derived.Deep.RegionHeld3
import Derived.Deep.RegionLaw
import Derived.Deep.DeepCutAuto
import Derived.Deep.QuietTactic
import Derived.BigQuiet
import Derived.Maps.AppendAt
import Derived.Lib.SliceRun
import Derived.Deep.AppendLies
namespace Go.Proofs.YtebjkmknhpgemaaGreat
open Go.RowKit
theorem staQ_same {S : SA} {q q' : Q4} {w : World} (h1 : S.st.length ≤ 100 ∧ S.rd.length ≤ 100 ∧ S.wr.length ≤ 100 ∧ S.vs.length ≤ 100 ∧ ∀ i, (S.rd.getD i []).length ≤ 100 ∧ (S.wr.getD i []).length ≤ 100 ∧ (S.vs.getD i []).length ≤ 100) (hq : StaQ S q w) (hq' : StaQ S q' w) : Calls Tryz.prog 21 #[.agg #[.slice q.sa q.sn q.sc, .slice q.ra q.rn q.rc, .slice q.wa q.wn q.tc, .slice q.va q.vn q.vc], .agg #[.slice q'.sa q'.sn q'.sc, .slice q'.ra q'.rn q'.rc, .slice q'.wa q'.wn q'.tc, .slice q'.va q'.vn q'.vc]] w fun e w' => e = .returned (.bool true) ∧ Below w.heap.size w w' := by
  obtain ⟨e1, e2, e3, e4, hs⟩ := hq
  obtain ⟨d1, d2, d3, d4, ht⟩ := hq'
  rw [e1, e2, e3, e4, d1, d2, d3, d4]
  obtain ⟨a1, a2, a3, a4, a5⟩ := h1
  exact sameStates_eq q.sa q.ra q.wa q.va q'.sa q'.ra q'.wa q'.va q.sc q.rc q.tc q.vc q'.sc q'.rc q'.tc q'.vc S w hs ht a1 a2 a3 a4 a5
theorem small_nil : SNil.st.length ≤ 100 ∧ SNil.rd.length ≤ 100 ∧ SNil.wr.length ≤ 100 ∧ SNil.vs.length ≤ 100 ∧ ∀ i, (SNil.rd.getD i []).length ≤ 100 ∧ (SNil.wr.getD i []).length ≤ 100 ∧ (SNil.vs.getD i []).length ≤ 100 := ⟨Nat.zero_le _, Nat.zero_le _, Nat.zero_le _, Nat.zero_le _, fun _ => ⟨Nat.zero_le _, Nat.zero_le _, Nat.zero_le _⟩⟩
theorem small_st {m : Int} {l : List TxA} {S : SA} (h : stE m l S = 0) : S.st.length ≤ 100 ∧ S.rd.length ≤ 100 ∧ S.wr.length ≤ 100 ∧ S.vs.length ≤ 100 ∧ ∀ i, (S.rd.getD i []).length ≤ 100 ∧ (S.wr.getD i []).length ≤ 100 ∧ (S.vs.getD i []).length ≤ 100 := by
  obtain ⟨sh, rfl, _, h4, hc, _, hf, _⟩ := stE_zero h
  have f := formB_iff.1 hf
  have h8 := chkL_len hc
  refine ⟨by rw [f.st]; omega, by rw [f.rd]; omega, by rw [f.wr]; omega, by rw [f.vs]; omega, fun i => ?_⟩
  by_cases hi : i < l.length
  · have hr4 : (gX l i).rs.length ≤ 4 := (many_small _ _ _ (chk_parts (chkL_in hc i hi)).1).1
    rw [f.rn i hi, f.wn i hi, f.vn i hi]
    omega
  · have a1 : S.rd.getD i [] = [] := by simp [List.getD, List.getElem?_eq_none (show S.rd.length ≤ i by rw [f.rd]; omega)]
    have a2 : S.wr.getD i [] = [] := by simp [List.getD, List.getElem?_eq_none (show S.wr.length ≤ i by rw [f.wr]; omega)]
    have a3 : S.vs.getD i [] = [] := by simp [List.getD, List.getElem?_eq_none (show S.vs.length ≤ i by rw [f.vs]; omega)]
    rw [a1, a2, a3]
    simp
theorem beg_parts (m : Int) (l : List TxA) (s : List Int) : (¬ planE m l = 0 → begE m l s = planE m l) ∧ (planE m l = 0 → ¬ s.length = 8 → begE m l s = 1) ∧ (planE m l = 0 → s.length = 8 → begE m l s = 0) := by
  unfold begE lenE
  refine ⟨fun h => by simp [firstNZ, h], fun h1 h2 => by rw [h1, if_neg h2]; rfl, fun h1 h2 => by rw [h1, if_pos h2]; rfl⟩
variable (la : Option Addr) (lc : Nat) (l : List TxA) (za : Option Addr) (zc : Nat) (s : List Int) (sa ra wa va : Option Addr) (sc rc tc vc : Nat) (S : SA)
end Go.Proofs.YtebjkmknhpgemaaGreat
