/-
  Cells of new blocks.
  Conditions: those that each theorem states.
-/
import Derived.Test.YtcgpkonfneofdaaTxnC
import Derived.WalkKit
import Derived.WalkSpells
import Derived.WalkLawsBesides
import Derived.Defers
import Derived.Recover
import Derived.ProofKit
import Derived.Deep.RegionHeld
import Derived.Deep.RegionHeld3
import Derived.Deep.RegionLaw
import Derived.Deep.DeepCutAuto
import Derived.Deep.QuietTactic
import Derived.BigQuiet
import Derived.Maps.AppendAt
import Derived.Lib.SliceRun
import Derived.Deep.AppendLies
namespace Go.Proofs.Ytcgpkonfneofdaa
open Go.RowKit

theorem at_new (W : World) (cs : Array Value) (ty : TypeId) (b j : Nat) (v : Value) (hb : b = W.heap.size) (hj : cs[j]? = some v) : (W.alloc (.cells cs ty)).cell? ⟨b, j, none⟩ = some v := by
  subst hb
  simp [hj]
theorem set_off {w : World} {b i j : Nat} {u v : Value} (hne : i ≠ j) (hc : w.cell? ⟨b, i, none⟩ = some u) : (w.setCell ⟨b, j, none⟩ v).cell? ⟨b, i, none⟩ = some u := by
  simp [go_sem, hc]
  try omega
theorem set_here {w : World} {b i : Nat} {u v : Value} (hc : w.cell? ⟨b, i, none⟩ = some u) : (w.setCell ⟨b, i, none⟩ v).cell? ⟨b, i, none⟩ = some v := by
  simp [go_sem, hc]
theorem frozen_new (w : World) (cs : Array Value) (t : TypeId) (b j : Nat) (e : b = w.heap.size) : (w.alloc (.cells cs t)).frozen? ⟨b, j, none⟩ = false := by subst e; simp
end Go.Proofs.Ytcgpkonfneofdaa
