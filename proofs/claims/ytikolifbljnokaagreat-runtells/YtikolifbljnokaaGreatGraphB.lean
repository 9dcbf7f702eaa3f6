/-
  graph.Clash: do two transactions have a key in common, and does one at least set it?
  Conditions: both can be read.
-/
import Derived.Test.YtikolifbljnokaaGreatGraphA
import Derived.Test.YtikolifbljnokaaGreatFault
import Derived.Test.YtikolifbljnokaaGreatPlaceA
import Derived.WalkKit
import Derived.WalkSpells
import Derived.WalkLawsBesides
import Derived.Defers
import Derived.Recover
import Derived.ProofKit
import Derived.Deep.RegionHeld
import Derived.Deep.RegionHeld3
import Derived.BigQuiet
import Derived.Deep.RegionLaw
import Derived.Deep.DeepCutAuto
namespace Go.Proofs.YtikolifbljnokaaGreat
open Go.RowKit

set_option maxRecDepth 100000 in
theorem gotLocks_bad (a : Option Addr) (k c : Nat) (x : Int) (hx : ¬ x = 0) (w : World) : Calls Tryz.prog 89 #[.slice a k c, .int .i64 x] w fun e w' => e = .panicked [{ v := .iface 25 (.int .i64 x), recovered := false }] ∧ Below w.heap.size w w' := by
  have hn : firstNZ [x] = x := by unfold firstNZ; rw [if_neg hx]
  go_enter Tryz.func89, Tryz.ntmps89
  go_wp2_with fail
  refine (leave_nz [x] _ 1 _ (by simp) (by rw [hn]; exact hx) (errs1 _ _ _ rfl)).mono ?_
  rintro e w' ⟨rfl, rfl⟩
  rw [hn]
  exact ⟨rfl, rfl, grow_alloc (Below.refl _ _) _⟩

/-- One lock and many. -/
def meet1 (a : Int × Bool) (M : List (Int × Bool)) : Bool := M.any fun b => a.1 == b.1 && (a.2 || b.2)
theorem meetV_step (L M : List (Int × Bool)) (k : Nat) (h : k < L.length) : meetV (L.drop k) M = (meet1 (L.getD k (0, false)) M || meetV (L.drop (k + 1)) M) := by
  unfold meetV meet1
  rw [List.drop_eq_getElem_cons h, List.any_cons]
  simp [List.getD, h]
theorem meet1_step (a : Int × Bool) (M : List (Int × Bool)) (j : Nat) (h : j < M.length) : meet1 a (M.drop j) = ((a.1 == (M.getD j (0, false)).1 && (a.2 || (M.getD j (0, false)).2)) || meet1 a (M.drop (j + 1))) := by
  unfold meet1
  rw [List.drop_eq_getElem_cons h, List.any_cons]
  simp [List.getD, h]

variable (x y : TxA)

/-- What Clash answers. -/
def clE (x y : TxA) : Int := if chkX x = 0 then chkX y else chkX x
def clB (x y : TxA) : Bool := if clE x y = 0 then clashX x y else false

end Go.Proofs.YtikolifbljnokaaGreat
