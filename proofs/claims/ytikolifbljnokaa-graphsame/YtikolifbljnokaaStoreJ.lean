/-
  The document's own SerialOf, ApplyOf and SameResults.
  Conditions: what they are handed can be read.
-/
import Derived.Test.YtikolifbljnokaaStoreI
import Derived.WalkKit
import Derived.WalkSpells
import Derived.WalkLawsBesides
import Derived.Defers
import Derived.Recover
import Derived.ProofKit
import Derived.Deep.RegionHeld
import Derived.Deep.RegionHeld3
import Derived.Deep.RegionLaw
import Derived.BigQuiet
namespace Go.Proofs.Ytikolifbljnokaa
open Go.RowKit

variable (sa la : Option Addr) (sc lc : Nat) (s : List Int) (l : List TxA)

set_option maxRecDepth 100000 in
theorem serE_len {s : List Int} {l : List TxA} (h : ¬ s.length = 8) : serE s l = 1 := by
  have h1 : lenE s = 1 := if_neg h
  unfold serE
  rw [h1]
  rfl
set_option maxRecDepth 100000 in
theorem serE_chk {s : List Int} {l : List TxA} (h : s.length = 8) : serE s l = chkL l := by
  have h1 : lenE s = 0 := if_pos h
  unfold serE
  rw [h1, firstNZ, if_pos rfl, firstNZ, firstNZ]
  split <;> simp_all

end Go.Proofs.Ytikolifbljnokaa
