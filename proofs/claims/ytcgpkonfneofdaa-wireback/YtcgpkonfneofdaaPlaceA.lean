/-
  Plans: place.Check, place.Shard, and the document's own CheckPlan and PlanError.
  Conditions: the plan's transactions can be read.
-/
import Derived.Test.YtcgpkonfneofdaaStoreB
import Derived.Test.YtcgpkonfneofdaaTxnH
import Derived.WalkKit
import Derived.WalkSpells
import Derived.WalkLawsBesides
import Derived.Defers
import Derived.Recover
import Derived.ProofKit
import Derived.Deep.RegionHeld
import Derived.Deep.RegionHeld3
import Derived.BigQuiet
namespace Go.Proofs.Ytcgpkonfneofdaa
open Go.RowKit

/-- The error of a plan; of a plan and a number. -/
def planE (m : Int) (l : List TxA) : Int := if m < 1 ∨ 4 < m then 3 else chkL l
def noneE (n : Int) (k : Nat) : Int := if n < 0 ∨ (k : Int) ≤ n then 5 else 0
def pnE (m : Int) (l : List TxA) (n : Int) : Int := firstNZ [planE m l, noneE n l.length]

theorem planE_zero {m : Int} {l : List TxA} (h : planE m l = 0) : 1 ≤ m ∧ m ≤ 4 ∧ chkL l = 0 := by
  unfold planE at h
  by_cases c : m < 1 ∨ 4 < m
  · rw [if_pos c] at h; omega
  · rw [if_neg c] at h; exact ⟨by omega, by omega, h⟩
theorem chkL_small {l : List TxA} (h : chkL l = 0) : l.length ≤ 8 := by
  unfold chkL at h
  by_cases c : 8 < l.length
  · rw [if_pos c] at h; omega
  · omega
theorem noneE_zero {n : Int} {k : Nat} (h : noneE n k = 0) : 0 ≤ n ∧ n < k := by
  unfold noneE at h
  by_cases c : n < 0 ∨ (k : Int) ≤ n
  · rw [if_pos c] at h; omega
  · omega
theorem pnE_zero {m : Int} {l : List TxA} {n : Int} (h : pnE m l n = 0) : planE m l = 0 ∧ noneE n l.length = 0 := by
  have h' := firstNZ_zero _ h
  exact ⟨by simpa using h' 0, by simpa using h' 1⟩

theorem within_any (n low high : Int) (w : World) :
    Calls Try.prog 38 #[.int .i64 n, .int .i64 low, .int .i64 high] w fun e w' => e = .returned (.bool (decide (low ≤ n) && decide (n ≤ high))) ∧ w' = w := by
  by_cases h1 : low ≤ n
  · by_cases h2 : n ≤ high
    · go_enter Try.func38, Try.ntmps38
      go_wp2
      go_ret
      exact ⟨by simp [h1, h2], rfl⟩
    · go_enter Try.func38, Try.ntmps38
      go_wp2
      go_ret
      exact ⟨by simp [h2], rfl⟩
  · go_enter Try.func38, Try.ntmps38
    go_wp2
    go_ret
    exact ⟨by simp; omega, rfl⟩

variable (la : Option Addr) (lc : Nat) (l : List TxA) (m n key : Int)

set_option maxRecDepth 100000 in
set_option maxHeartbeats 1000000 in
theorem placeCheck_any (w : World) (hl : IsTxs w la l) :
    Calls Try.prog 55 #[.agg #[.int .i64 m, .slice la l.length lc]] w fun e w' => e = .returned (.int .i64 (planE m l)) ∧ Below w.heap.size w w' := by
  have HL : Hid (IsTxs (w.alloc (.cells #[.int .i64 m, .slice la l.length lc] 50)) la l) := hl.below (grow_alloc (Below.refl _ _) _)
  clear hl
  by_cases h1 : m < 1
  · have H : Hid (planE m l = 3) := if_pos (.inl h1)
    go_enter Try.func55, Try.ntmps55
    go_wp2
    go_ret
    exact ⟨by rw [H.out]; rfl, grow_alloc (Below.refl _ _) _⟩
  · by_cases h4 : 4 < m
    · have H : Hid (planE m l = 3) := if_pos (.inr h4)
      go_enter Try.func55, Try.ntmps55
      go_wp2
      go_ret
      exact ⟨by rw [H.out]; rfl, grow_alloc (Below.refl _ _) _⟩
    · have H : Hid (planE m l = chkL l) := if_neg (by omega)
      go_enter Try.func55, Try.ntmps55
      go_wp2_with fail
      refine (orderCheck_any la lc l _ HL.out).mono ?_
      rintro e w1 ⟨rfl, hb⟩
      have B1 : Below w.heap.size w w1 := grow_trans (grow_alloc (Below.refl _ _) _) hb
      clear hb
      go_wp2
      go_ret
      exact ⟨by rw [H.out]; rfl, B1⟩

set_option maxRecDepth 100000 in
set_option maxHeartbeats 1000000 in
theorem checkPlan_any (w : World) (hl : IsTxs w la l) :
    Calls Try.prog 17 #[.agg #[.int .i64 m, .slice la l.length lc]] w fun e w' => e = .returned (.int .i64 (planE m l)) ∧ Below w.heap.size w w' := by
  have HL : Hid (IsTxs (w.alloc (.cells #[.int .i64 m, .slice la l.length lc] 50)) la l) := hl.below (grow_alloc (Below.refl _ _) _)
  clear hl
  by_cases h1 : m < 1 ∨ 4 < m
  · have H : Hid (planE m l = 3) := if_pos h1
    have HW : Hid (∀ w, Calls Try.prog 38 #[.int .i64 m, .int .i64 1, .int .i64 4] w fun e w' => e = .returned (.bool false) ∧ w' = w) := fun w => by
      have h := within_any m 1 4 w
      have e : (decide (1 ≤ m) && decide (m ≤ 4)) = false := by simp; omega
      rw [e] at h
      exact h
    clear h1
    go_enter Try.func17, Try.ntmps17
    go_wp2_with fail
    refine (HW.out _).mono ?_
    rintro e w' ⟨rfl, rfl⟩
    go_wp2
    go_ret
    exact ⟨by rw [H.out]; rfl, grow_alloc (Below.refl _ _) _⟩
  · have H : Hid (planE m l = chkL l) := if_neg h1
    have HW : Hid (∀ w, Calls Try.prog 38 #[.int .i64 m, .int .i64 1, .int .i64 4] w fun e w' => e = .returned (.bool true) ∧ w' = w) := fun w => by
      have h := within_any m 1 4 w
      have e : (decide (1 ≤ m) && decide (m ≤ 4)) = true := by simp; omega
      rw [e] at h
      exact h
    clear h1
    go_enter Try.func17, Try.ntmps17
    go_wp2_with fail
    refine (HW.out _).mono ?_
    rintro e w' ⟨rfl, rfl⟩
    go_wp2_with fail
    refine (checkTxns_any la lc l _ HL.out).mono ?_
    rintro e w1 ⟨rfl, hb⟩
    have B1 : Below w.heap.size w w1 := grow_trans (grow_alloc (Below.refl _ _) _) hb
    clear hb
    go_wp2
    go_ret
    exact ⟨by rw [H.out]; rfl, B1⟩

/-- What Shard tells. -/
def shardE (m : Int) (l : List TxA) (key : Int) : Int := firstNZ [planE m l, if key < 0 ∨ 8 ≤ key then 3 else 0]
def shardV (m : Int) (l : List TxA) (key : Int) : Int := if shardE m l key = 0 then key % m else 0

end Go.Proofs.Ytcgpkonfneofdaa
