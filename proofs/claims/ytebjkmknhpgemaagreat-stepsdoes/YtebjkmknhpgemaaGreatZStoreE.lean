/-
  
  Conditions: those that each theorem states.
-/
import Derived.Test.YtebjkmknhpgemaaGreatZStoreD
import Derived.WalkKit
import Derived.WalkSpells
import Derived.WalkLawsBesides
import Derived.Defers
import Derived.Recover
import Derived.ProofKit
import Derived.Deep.RegionHeld
import Derived.Deep.RegionHeld3
import Derived.Deep.DeepCutAuto
import Derived.BigQuiet
import Derived.Maps.AppendAt
import Derived.Lib.SliceRun
namespace Go.Proofs.YtebjkmknhpgemaaGreat
open Go.RowKit
/-- A result, and where its values lie. -/
structure RsA where
  va : Option Addr
  vc : Nat
  d : Bool
  vs : List Int
def r0 : RsA := ⟨none, 0, false, []⟩
set_option maxRecDepth 100000 in
theorem IsAt.keptBy {lo hi : Nat} {w w' : World} {row : Option Nat} {a : Option Addr} {zs : List Int} (h : IsAt lo hi w a zs) (hg : w.grownBy w' row) (hr : zs ≠ [] → ∀ ad, a = some ad → row ≠ some ad.block) : IsAt lo hi w' a zs := fun i hi' => by
  obtain ⟨b, off, ha, h1, h2, hc⟩ := h i hi'
  refine ⟨b, off, ha, h1, h2, hg.cell hc (fun e => ?_)⟩
  exact hr (fun e' => by rw [e'] at hi'; simp at hi') _ ha e.symm
end Go.Proofs.YtebjkmknhpgemaaGreat
