/-
  store.Apply; and the document's own apply, ApplyOf and SerialOf.
  Conditions: what they are handed can be read.
-/
import Derived.Test.YtcgpkonfneofdaaStoreG
import Derived.WalkKit
import Derived.WalkSpells
import Derived.WalkLawsBesides
import Derived.Defers
import Derived.Recover
import Derived.ProofKit
import Derived.Deep.RegionHeld
import Derived.Deep.RegionHeld3
import Derived.Deep.DeepCutAuto
import Derived.BigQuiet
import Derived.Laws.AppendOwnNone
namespace Go.Proofs.Ytcgpkonfneofdaa
open Go.RowKit

theorem isTxs_one (w : World) (x : TxA) (n : Nat) (hn : n = w.heap.size) (hx : IsX w x) : IsTxs (w.alloc (.cells #[.slice x.ra x.rs.length x.rc, .slice x.ga x.gs.length x.gc, .slice x.sa x.ss.length x.sc] 38)) (some ⟨n, 0, none⟩) [x] := by
  subst hn
  intro i hi
  have hi0 : i = 0 := by simpa using hi
  subst hi0
  exact ⟨w.heap.size, 0, rfl, by simp, by simp, by simp, by simp, hx.below (grow_alloc (Below.refl _ _) _)⟩

/-- What Apply tells. -/
def apE (s : List Int) (x : TxA) : Int := serE s [x]
def apEnd (s : List Int) (x : TxA) : List Int := sEnd s [x]
def apD (s : List Int) (x : TxA) : Bool := if serE s [x] = 0 then aDone s x else false
def apV (s : List Int) (x : TxA) : List Int := if serE s [x] = 0 then aVals s x else []

variable (sa : Option Addr) (sc : Nat) (s : List Int)

end Go.Proofs.Ytcgpkonfneofdaa
