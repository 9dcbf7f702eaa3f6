/-
  
  Conditions: those that each theorem states.
-/
import Derived.Test.YtebjkmknhpgemaaGreatYEithA
import Derived.Test.YtebjkmknhpgemaaGreatYBegB
import Derived.WalkKit
import Derived.WalkSpells
import Derived.WalkLawsBesides
import Derived.Defers
import Derived.Recover
import Derived.ProofKit
import Derived.Deep.RegionHeld
import Derived.Deep.RegionHeld3
import Derived.Deep.RegionLaw
import Derived.Deep.DeepCutAuto
import Derived.Deep.QuietTactic
import Derived.BigQuiet
import Derived.Maps.AppendAt
import Derived.Lib.SliceRun
import Derived.Deep.AppendLies
namespace Go.Proofs.YtebjkmknhpgemaaGreat
open Go.RowKit
theorem news_range {w : World} {s : List Int} {ad : Addr} (hs : IsInts w (some ad) s) : ∀ j u, ((List.range s.length).map (fun k => Value.int .i64 (s.getD k 0)))[j]? = some u → w.cell? (ad.add j) = some u := by
  intro j u hj
  have hlt : j < s.length := by
    have := (List.getElem?_eq_some_iff.1 hj).1
    simpa using this
  obtain ⟨b, off, ha, hb, hc⟩ := hs j hlt
  injection ha with ha
  subst ha
  rw [add_none, hc]
  rw [← hj]
  simp [hlt]
theorem one_range (s : List Int) (n : Nat) : ∀ u ∈ (List.range n).map (fun k => Value.int .i64 (s.getD k 0)), u.oneCell' = true := by
  intro u hu
  obtain ⟨k, _, rfl⟩ := List.mem_map.1 hu
  rfl
variable (la : Option Addr) (lc : Nat) (l : List TxA) (sa : Option Addr) (sc : Nat) (s : List Int)
end Go.Proofs.YtebjkmknhpgemaaGreat
