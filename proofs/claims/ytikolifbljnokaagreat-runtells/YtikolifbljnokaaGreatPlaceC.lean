/-
  place.locksOf, and the function literals inside Part and Active.
  Conditions: the plan's transactions can be read.
-/
import Derived.Test.YtikolifbljnokaaGreatPlaceB
import Derived.Test.YtikolifbljnokaaGreatTxnG
import Derived.WalkKit
import Derived.WalkSpells
import Derived.WalkLawsBesides
import Derived.Defers
import Derived.Recover
import Derived.ProofKit
import Derived.Deep.RegionHeld
import Derived.Deep.RegionHeld3
import Derived.BigQuiet
namespace Go.Proofs.YtikolifbljnokaaGreat
open Go.RowKit

theorem chkL_in {l : List TxA} (h : chkL l = 0) (k : Nat) (hk : k < l.length) : chkX (l.getD k x0) = 0 := by
  have h8 := chkL_small h
  unfold chkL at h
  rw [if_neg (by omega)] at h
  exact map_zero chkX l x0 h k hk

theorem ext3 {W w' : World} {p1 p2 p3 : Addr} {v1 v2 v3 : Value} (hb : Below W.heap.size W w') (q1 : W.cell? p1 = some v1) (q2 : W.cell? p2 = some v2) (q3 : W.cell? p3 = some v3) :
    Below W.heap.size W w' ∧ w'.cell? p1 = some v1 ∧ w'.cell? p2 = some v2 ∧ w'.cell? p3 = some v3 := ⟨hb, ext_cell hb q1, ext_cell hb q2, ext_cell hb q3⟩
theorem ext2' {W w' : World} {p1 p2 : Addr} {v1 v2 : Value} (hb : Below W.heap.size W w') (q1 : W.cell? p1 = some v1) (q2 : W.cell? p2 = some v2) :
    Below W.heap.size W w' ∧ w'.cell? p1 = some v1 ∧ w'.cell? p2 = some v2 := ⟨hb, ext_cell hb q1, ext_cell hb q2⟩

/-- The locks of transaction n; its keys, and those that it sets. -/
def locksAt (l : List TxA) (k : Nat) : List (Int × Bool) := lkTo (l.getD k x0).rs (keysOf (l.getD k x0).ss) 8
def keysIn (L : List (Int × Bool)) : List Int := L.map Prod.fst
def setsIn (L : List (Int × Bool)) : List Int := (L.filter Prod.snd).map Prod.fst

theorem lkTo_range (rs ks : List Int) : ∀ n, ∀ p ∈ lkTo rs ks n, 0 ≤ p.1 ∧ p.1 < n
  | 0, p, h => by cases h
  | n + 1, p, h => by
    rw [lkTo, List.mem_append] at h
    rcases h with h | h
    · have := lkTo_range rs ks n p h
      omega
    · by_cases c : (n : Int) ∈ ks ∨ (n : Int) ∈ rs
      · rw [if_pos c] at h
        simp only [List.mem_singleton] at h
        subst h
        exact ⟨by simp, by simp; omega⟩
      · rw [if_neg c] at h; cases h
theorem keysIn_range (l : List TxA) (k : Nat) : ∀ i, i < (keysIn (locksAt l k)).length → 0 ≤ (keysIn (locksAt l k)).getD i 0 ∧ (keysIn (locksAt l k)).getD i 0 < 8 := fun i hi => by
  have hm : (keysIn (locksAt l k)).getD i 0 ∈ keysIn (locksAt l k) := by simp [List.getD, hi]
  obtain ⟨p, hp, he⟩ := List.mem_map.1 hm
  have := lkTo_range _ _ _ p hp
  rw [← he]
  exact this
theorem setsIn_range (l : List TxA) (k : Nat) : ∀ i, i < (setsIn (locksAt l k)).length → 0 ≤ (setsIn (locksAt l k)).getD i 0 ∧ (setsIn (locksAt l k)).getD i 0 < 8 := fun i hi => by
  have hm : (setsIn (locksAt l k)).getD i 0 ∈ setsIn (locksAt l k) := by simp [List.getD, hi]
  obtain ⟨p, hp, he⟩ := List.mem_map.1 hm
  have := lkTo_range _ _ _ p (List.mem_filter.1 hp).1
  rw [← he]
  exact this
theorem locksAt_len (l : List TxA) (k : Nat) : (locksAt l k).length ≤ 8 := lkTo_len _ _ _
theorem keysIn_take (L : List (Int × Bool)) (k : Nat) (h : k < L.length) : keysIn (L.take (k + 1)) = keysIn (L.take k) ++ [(L.getD k (0, false)).1] := by
  rw [List.take_succ_eq_append_getElem h]
  unfold keysIn
  rw [List.map_append]
  congr 1
  simp [List.getD, h]
theorem setsIn_take (L : List (Int × Bool)) (k : Nat) (h : k < L.length) : setsIn (L.take (k + 1)) = setsIn (L.take k) ++ (if (L.getD k (0, false)).2 then [(L.getD k (0, false)).1] else []) := by
  rw [List.take_succ_eq_append_getElem h]
  have e : L.getD k (0, false) = L[k] := by simp [List.getD, h]
  rw [e]
  unfold setsIn
  rw [List.filter_append, List.map_append]
  congr 1
  by_cases c : L[k].2 = true
  · rw [if_pos c]; simp [c]
  · rw [if_neg c]; simp [c]

variable (la : Option Addr) (lc : Nat) (l : List TxA) (m n : Int)

end Go.Proofs.YtikolifbljnokaaGreat
