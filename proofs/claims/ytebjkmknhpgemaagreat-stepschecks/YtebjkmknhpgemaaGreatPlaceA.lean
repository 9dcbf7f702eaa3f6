/-
  Plans: place.Check, place.Shard, and the document's own CheckPlan and PlanError.
  Conditions: the plan's transactions can be read.
-/
import Derived.Test.YtebjkmknhpgemaaGreatStoreB
import Derived.Test.YtebjkmknhpgemaaGreatTxnH
import Derived.WalkKit
import Derived.WalkSpells
import Derived.WalkLawsBesides
import Derived.Defers
import Derived.Recover
import Derived.ProofKit
import Derived.Deep.RegionHeld
import Derived.Deep.RegionHeld3
import Derived.BigQuiet
namespace Go.Proofs.YtebjkmknhpgemaaGreat
open Go.RowKit

/-- The error of a plan; of a plan and a number. -/
def planE (m : Int) (l : List TxA) : Int := if m < 1 ∨ 4 < m then 3 else chkL l
def noneE (n : Int) (k : Nat) : Int := if n < 0 ∨ (k : Int) ≤ n then 5 else 0
def pnE (m : Int) (l : List TxA) (n : Int) : Int := firstNZ [planE m l, noneE n l.length]

theorem planE_zero {m : Int} {l : List TxA} (h : planE m l = 0) : 1 ≤ m ∧ m ≤ 4 ∧ chkL l = 0 := by
  unfold planE at h
  by_cases c : m < 1 ∨ 4 < m
  · rw [if_pos c] at h; omega
  · rw [if_neg c] at h; exact ⟨by omega, by omega, h⟩
theorem chkL_small {l : List TxA} (h : chkL l = 0) : l.length ≤ 8 := by
  unfold chkL at h
  by_cases c : 8 < l.length
  · rw [if_pos c] at h; omega
  · omega
theorem noneE_zero {n : Int} {k : Nat} (h : noneE n k = 0) : 0 ≤ n ∧ n < k := by
  unfold noneE at h
  by_cases c : n < 0 ∨ (k : Int) ≤ n
  · rw [if_pos c] at h; omega
  · omega
theorem pnE_zero {m : Int} {l : List TxA} {n : Int} (h : pnE m l n = 0) : planE m l = 0 ∧ noneE n l.length = 0 := by
  have h' := firstNZ_zero _ h
  exact ⟨by simpa using h' 0, by simpa using h' 1⟩

theorem within_any (n low high : Int) (w : World) :
    Calls Tryz.prog 51 #[.int .i64 n, .int .i64 low, .int .i64 high] w fun e w' => e = .returned (.bool (decide (low ≤ n) && decide (n ≤ high))) ∧ w' = w := by
  by_cases h1 : low ≤ n
  · by_cases h2 : n ≤ high
    · go_enter Tryz.func51, Tryz.ntmps51
      go_wp2
      go_ret
      exact ⟨by simp [h1, h2], rfl⟩
    · go_enter Tryz.func51, Tryz.ntmps51
      go_wp2
      go_ret
      exact ⟨by simp [h2], rfl⟩
  · go_enter Tryz.func51, Tryz.ntmps51
    go_wp2
    go_ret
    exact ⟨by simp; omega, rfl⟩

variable (la : Option Addr) (lc : Nat) (l : List TxA) (m n key : Int)

set_option maxRecDepth 100000 in
set_option maxHeartbeats 1000000 in
theorem placeCheck_any (w : World) (hl : IsTxs w la l) :
    Calls Tryz.prog 44 #[.agg #[.int .i64 m, .slice la l.length lc]] w fun e w' => e = .returned (.int .i64 (planE m l)) ∧ Below w.heap.size w w' := by
  have HL : Hid (IsTxs (w.alloc (.cells #[.int .i64 m, .slice la l.length lc] 24)) la l) := hl.below (grow_alloc (Below.refl _ _) _)
  clear hl
  by_cases h1 : m < 1
  · have H : Hid (planE m l = 3) := if_pos (.inl h1)
    go_enter Tryz.func44, Tryz.ntmps44
    go_wp2
    go_ret
    exact ⟨by rw [H.out]; rfl, grow_alloc (Below.refl _ _) _⟩
  · by_cases h4 : 4 < m
    · have H : Hid (planE m l = 3) := if_pos (.inr h4)
      go_enter Tryz.func44, Tryz.ntmps44
      go_wp2
      go_ret
      exact ⟨by rw [H.out]; rfl, grow_alloc (Below.refl _ _) _⟩
    · have H : Hid (planE m l = chkL l) := if_neg (by omega)
      go_enter Tryz.func44, Tryz.ntmps44
      go_wp2_with fail
      refine (orderCheck_any la lc l _ HL.out).mono ?_
      rintro e w1 ⟨rfl, hb⟩
      have B1 : Below w.heap.size w w1 := grow_trans (grow_alloc (Below.refl _ _) _) hb
      clear hb
      go_wp2
      go_ret
      exact ⟨by rw [H.out]; rfl, B1⟩

set_option maxRecDepth 100000 in
set_option maxHeartbeats 1000000 in
theorem checkPlan_any (w : World) (hl : IsTxs w la l) :
    Calls Tryz.prog 16 #[.agg #[.int .i64 m, .slice la l.length lc]] w fun e w' => e = .returned (.int .i64 (planE m l)) ∧ Below w.heap.size w w' := by
  have HL : Hid (IsTxs (w.alloc (.cells #[.int .i64 m, .slice la l.length lc] 24)) la l) := hl.below (grow_alloc (Below.refl _ _) _)
  clear hl
  by_cases h1 : m < 1 ∨ 4 < m
  · have H : Hid (planE m l = 3) := if_pos h1
    have HW : Hid (∀ w, Calls Tryz.prog 51 #[.int .i64 m, .int .i64 1, .int .i64 4] w fun e w' => e = .returned (.bool false) ∧ w' = w) := fun w => by
      have h := within_any m 1 4 w
      have e : (decide (1 ≤ m) && decide (m ≤ 4)) = false := by simp; omega
      rw [e] at h
      exact h
    clear h1
    go_enter Tryz.func16, Tryz.ntmps16
    go_wp2_with fail
    refine (HW.out _).mono ?_
    rintro e w' ⟨rfl, rfl⟩
    go_wp2
    go_ret
    exact ⟨by rw [H.out]; rfl, grow_alloc (Below.refl _ _) _⟩
  · have H : Hid (planE m l = chkL l) := if_neg h1
    have HW : Hid (∀ w, Calls Tryz.prog 51 #[.int .i64 m, .int .i64 1, .int .i64 4] w fun e w' => e = .returned (.bool true) ∧ w' = w) := fun w => by
      have h := within_any m 1 4 w
      have e : (decide (1 ≤ m) && decide (m ≤ 4)) = true := by simp; omega
      rw [e] at h
      exact h
    clear h1
    go_enter Tryz.func16, Tryz.ntmps16
    go_wp2_with fail
    refine (HW.out _).mono ?_
    rintro e w' ⟨rfl, rfl⟩
    go_wp2_with fail
    refine (checkTxns_any la lc l _ HL.out).mono ?_
    rintro e w1 ⟨rfl, hb⟩
    have B1 : Below w.heap.size w w1 := grow_trans (grow_alloc (Below.refl _ _) _) hb
    clear hb
    go_wp2
    go_ret
    exact ⟨by rw [H.out]; rfl, B1⟩

set_option maxRecDepth 100000 in
theorem noneError_any (w : World) :
    Calls Tryz.prog 128 #[.agg #[.int .i64 m, .slice la l.length lc], .int .i64 n] w fun e w' => e = .returned (.int .i64 (noneE n l.length)) ∧ Below w.heap.size w w' := by
  by_cases h1 : n < 0
  · have H : Hid (noneE n l.length = 5) := if_pos (.inl h1)
    go_enter Tryz.func128, Tryz.ntmps128
    go_wp2
    go_ret
    exact ⟨by rw [H.out]; rfl, grow_alloc (Below.refl _ _) _⟩
  · by_cases h2 : (l.length : Int) ≤ n
    · have H : Hid (noneE n l.length = 5) := if_pos (.inr h2)
      go_enter Tryz.func128, Tryz.ntmps128
      go_wp2
      go_ret
      exact ⟨by rw [H.out]; rfl, grow_alloc (Below.refl _ _) _⟩
    · have H : Hid (noneE n l.length = 0) := if_neg (by omega)
      go_enter Tryz.func128, Tryz.ntmps128
      go_wp2
      go_ret
      exact ⟨by rw [H.out]; rfl, grow_alloc (Below.refl _ _) _⟩

set_option maxRecDepth 100000 in
theorem shardOf_any (sh k : Nat) (w : World) (hs : 0 < sh) (hs4 : sh ≤ 4) (hk : k < 8) :
    Calls Tryz.prog 129 #[.agg #[.int .i64 sh, .slice la l.length lc], .int .i64 k] w fun e w' => e = .returned (.int .i64 ((k % sh : Nat) : Int)) ∧ w' = w.alloc (.cells #[.int .i64 sh, .slice la l.length lc] 24) := by
  go_enter Tryz.func129, Tryz.ntmps129
  go_wp2
  go_ret
  exact ⟨by simp, rfl⟩

/-- What Shard tells. -/
def shardE (m : Int) (l : List TxA) (key : Int) : Int := firstNZ [planE m l, if key < 0 ∨ 8 ≤ key then 3 else 0]
def shardV (m : Int) (l : List TxA) (key : Int) : Int := if shardE m l key = 0 then key % m else 0

set_option maxRecDepth 100000 in
set_option maxHeartbeats 1000000 in
theorem shard_any (w : World) (hl : IsTxs w la l) :
    Calls Tryz.prog 140 #[.agg #[.int .i64 m, .slice la l.length lc], .int .i64 key] w fun e w' => e = .returned (.tuple #[.int .i64 (shardV m l key), .int .i64 (shardE m l key)]) ∧ Below w.heap.size w w' := by
  have hg : Below w.heap.size w (w.alloc (.cells #[.int .i64 m, .slice la l.length lc] 24)) := grow_alloc (Below.refl _ _) _
  have HL : Hid (IsTxs (w.alloc (.cells #[.int .i64 m, .slice la l.length lc] 24)) la l) := hl.below hg
  clear hl
  have HC : Hid (∀ w, IsTxs w la l → Calls Tryz.prog 44 #[.agg #[.int .i64 m, .slice la l.length lc]] w fun e w' => e = .returned (.int .i64 (planE m l)) ∧ Below w.heap.size w w') := fun w h => placeCheck_any la lc l m w h
  by_cases h1 : planE m l = 0
  · obtain ⟨m1, m4, _⟩ := planE_zero h1
    obtain ⟨sh, rfl⟩ : ∃ sh : Nat, m = sh := ⟨m.toNat, by omega⟩
    have HE : shardE sh l key = if key < 0 ∨ 8 ≤ key then 3 else 0 := by
      unfold shardE
      simp only [firstNZ, if_pos h1]
      by_cases c : key < 0 ∨ 8 ≤ key
      · rw [if_pos c, if_neg (by omega)]
      · rw [if_neg c, if_pos rfl]
    have HV : shardV sh l key = if key < 0 ∨ 8 ≤ key then 0 else key % (sh : Int) := by
      unfold shardV
      rw [HE]
      by_cases c : key < 0 ∨ 8 ≤ key
      · rw [if_pos c, if_pos c, if_neg (by omega)]
      · rw [if_neg c, if_neg c, if_pos rfl]
    rw [HE, HV]
    rw [h1] at HC
    clear HE HV h1
    by_cases c : key < 0 ∨ 8 ≤ key
    · rw [if_pos c, if_pos c]
      rcases c with c | c
      · go_enter Tryz.func140, Tryz.ntmps140
        go_wp2_with fail
        refine (HC.out _ HL.out).mono ?_
        rintro e w1 ⟨rfl, hb⟩
        have B1 : Hid (Below w.heap.size w w1) := grow_trans hg hb
        clear hb
        go_wp2
        go_ret2
        exact ⟨rfl, B1.out⟩
      · have c' : ¬ key < 0 := by omega
        go_enter Tryz.func140, Tryz.ntmps140
        go_wp2_with fail
        refine (HC.out _ HL.out).mono ?_
        rintro e w1 ⟨rfl, hb⟩
        have B1 : Hid (Below w.heap.size w w1) := grow_trans hg hb
        clear hb
        go_wp2
        go_ret2
        exact ⟨rfl, B1.out⟩
    · rw [if_neg c, if_neg c]
      obtain ⟨k, rfl⟩ : ∃ k : Nat, key = k := ⟨key.toNat, by omega⟩
      have k8 : k < 8 := by omega
      have s0 : 0 < sh := by omega
      have s4 : sh ≤ 4 := by omega
      have d1 : ¬ (k : Int) < 0 := by omega
      have d2 : ¬ 8 ≤ (k : Int) := by omega
      clear c m1 m4
      go_enter Tryz.func140, Tryz.ntmps140
      go_wp2_with fail
      refine (HC.out _ HL.out).mono ?_
      rintro e w1 ⟨rfl, hb⟩
      have q0 : w1.cell? ⟨w.heap.size, 0, none⟩ = some (.int .i64 sh) := ext_cell hb (by simp)
      have q1 : w1.cell? ⟨w.heap.size, 1, none⟩ = some (.slice la l.length lc) := ext_cell hb (by simp)
      have B1 : Hid (Below w.heap.size w w1) := grow_trans hg hb
      clear hb
      go_wp2_with fail
      refine (shardOf_any la lc l sh k _ s0 s4 k8).mono ?_
      rintro e w' ⟨rfl, hw'⟩
      rw [hw']
      go_wp2
      go_ret2
      exact ⟨by simp, grow_alloc B1.out _⟩
  · have HE : shardE m l key = planE m l := by
      unfold shardE
      simp only [firstNZ, if_neg h1]
    have HV : shardV m l key = 0 := by
      unfold shardV
      rw [HE, if_neg h1]
    rw [HE, HV]
    generalize planE m l = x at *
    have hx : (x != 0) = true := by simpa using h1
    clear HE HV h1
    go_enter Tryz.func140, Tryz.ntmps140
    go_wp2_with fail
    refine (HC.out _ HL.out).mono ?_
    rintro e w1 ⟨rfl, hb⟩
    have B1 : Hid (Below w.heap.size w w1) := grow_trans hg hb
    clear hb
    go_wp2
    go_ret2
    exact ⟨rfl, B1.out⟩

set_option maxRecDepth 100000 in
theorem gotLocks_ok (a : Option Addr) (k c : Nat) (w : World) : Calls Tryz.prog 96 #[.slice a k c, .int .i64 0] w fun e' w' => e' = .returned (.slice a k c) ∧ w' = w.alloc (.cells #[.int .i64 0] 30) := by
  go_enter Tryz.func96, Tryz.ntmps96
  go_wp2_with fail
  refine (leave_zero [0] _ 1 _ (by simp) rfl (errs1 _ _ _ rfl)).mono ?_
  rintro e w' ⟨rfl, rfl⟩
  go_wp2
  go_ret
  exact ⟨rfl, rfl⟩
end Go.Proofs.YtebjkmknhpgemaaGreat
