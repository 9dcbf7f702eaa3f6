/-
  Plans: place.Check, place.Shard, and the document's own CheckPlan and PlanError.
  Conditions: the plan's transactions can be read.
-/
import Derived.Test.YtikolifbljnokaaGreatStoreB
import Derived.Test.YtikolifbljnokaaGreatTxnH
import Derived.WalkKit
import Derived.WalkSpells
import Derived.WalkLawsBesides
import Derived.Defers
import Derived.Recover
import Derived.ProofKit
import Derived.Deep.RegionHeld
import Derived.Deep.RegionHeld3
import Derived.BigQuiet
namespace Go.Proofs.YtikolifbljnokaaGreat
open Go.RowKit

/-- The error of a plan; of a plan and a number. -/
def planE (m : Int) (l : List TxA) : Int := if m < 1 ∨ 4 < m then 3 else chkL l
def noneE (n : Int) (k : Nat) : Int := if n < 0 ∨ (k : Int) ≤ n then 5 else 0
def pnE (m : Int) (l : List TxA) (n : Int) : Int := firstNZ [planE m l, noneE n l.length]

theorem planE_zero {m : Int} {l : List TxA} (h : planE m l = 0) : 1 ≤ m ∧ m ≤ 4 ∧ chkL l = 0 := by
  unfold planE at h
  by_cases c : m < 1 ∨ 4 < m
  · rw [if_pos c] at h; omega
  · rw [if_neg c] at h; exact ⟨by omega, by omega, h⟩
theorem chkL_small {l : List TxA} (h : chkL l = 0) : l.length ≤ 8 := by
  unfold chkL at h
  by_cases c : 8 < l.length
  · rw [if_pos c] at h; omega
  · omega
theorem noneE_zero {n : Int} {k : Nat} (h : noneE n k = 0) : 0 ≤ n ∧ n < k := by
  unfold noneE at h
  by_cases c : n < 0 ∨ (k : Int) ≤ n
  · rw [if_pos c] at h; omega
  · omega
theorem pnE_zero {m : Int} {l : List TxA} {n : Int} (h : pnE m l n = 0) : planE m l = 0 ∧ noneE n l.length = 0 := by
  have h' := firstNZ_zero _ h
  exact ⟨by simpa using h' 0, by simpa using h' 1⟩

theorem within_any (n low high : Int) (w : World) :
    Calls Tryz.prog 14 #[.int .i64 n, .int .i64 low, .int .i64 high] w fun e w' => e = .returned (.bool (decide (low ≤ n) && decide (n ≤ high))) ∧ w' = w := by
  by_cases h1 : low ≤ n
  · by_cases h2 : n ≤ high
    · go_enter Tryz.func14, Tryz.ntmps14
      go_wp2
      go_ret
      exact ⟨by simp [h1, h2], rfl⟩
    · go_enter Tryz.func14, Tryz.ntmps14
      go_wp2
      go_ret
      exact ⟨by simp [h2], rfl⟩
  · go_enter Tryz.func14, Tryz.ntmps14
    go_wp2
    go_ret
    exact ⟨by simp; omega, rfl⟩

variable (la : Option Addr) (lc : Nat) (l : List TxA) (m n key : Int)

/-- What Shard tells. -/
def shardE (m : Int) (l : List TxA) (key : Int) : Int := firstNZ [planE m l, if key < 0 ∨ 8 ≤ key then 3 else 0]
def shardV (m : Int) (l : List TxA) (key : Int) : Int := if shardE m l key = 0 then key % m else 0

set_option maxRecDepth 100000 in
theorem gotLocks_ok (a : Option Addr) (k c : Nat) (w : World) : Calls Tryz.prog 89 #[.slice a k c, .int .i64 0] w fun e' w' => e' = .returned (.slice a k c) ∧ w' = w.alloc (.cells #[.int .i64 0] 25) := by
  go_enter Tryz.func89, Tryz.ntmps89
  go_wp2_with fail
  refine (leave_zero [0] _ 1 _ (by simp) rfl (errs1 _ _ _ rfl)).mono ?_
  rintro e w' ⟨rfl, rfl⟩
  go_wp2
  go_ret
  exact ⟨rfl, rfl⟩
end Go.Proofs.YtikolifbljnokaaGreat
