/-
  txn.Locks and the document's LocksOf: the keys that are read or set, rising, none twice; Write, if it is set.
  Conditions: the transaction can be read.
-/
import Derived.Test.YtcgpkonfneofdaaTxnE
import Derived.Maps.AppendAt
import Derived.WalkKit
import Derived.WalkSpells
import Derived.WalkLawsBesides
import Derived.Defers
import Derived.Recover
import Derived.ProofKit
import Derived.Deep.RegionHeld
import Derived.Deep.RegionHeld3
import Derived.BigQuiet
namespace Go.Proofs.Ytcgpkonfneofdaa
open Go.RowKit

/-- The locks of the keys below n: those that are set, or read; Write, if it is set. -/
def lkTo (rs ks : List Int) : Nat → List (Int × Bool)
  | 0 => []
  | n + 1 => lkTo rs ks n ++ (if (n : Int) ∈ ks ∨ (n : Int) ∈ rs then [((n : Int), decide ((n : Int) ∈ ks))] else [])
def cellsL (l : List (Int × Bool)) : List Value := l.flatMap fun p => [.int .i64 p.1, .bool p.2]
def lksOf (rs : List Int) (gs : List Gd) (ss : List St) : List (Int × Bool) := if chkTx rs gs ss = 0 then lkTo rs (keysOf ss) 8 else []

set_option maxRecDepth 100000 in
theorem lkTo_len (rs ks : List Int) : ∀ n, (lkTo rs ks n).length ≤ n
  | 0 => Nat.le_refl _
  | n + 1 => by
    have := lkTo_len rs ks n
    unfold lkTo
    split <;> simp <;> omega
set_option maxRecDepth 100000 in
theorem cellsL_append (l m : List (Int × Bool)) : cellsL (l ++ m) = cellsL l ++ cellsL m := by simp [cellsL]
set_option maxRecDepth 100000 in
theorem lkTo_set (rs ks : List Int) (n : Nat) (h : (n : Int) ∈ ks) : lkTo rs ks (n + 1) = lkTo rs ks n ++ [((n : Int), true)] := by
  rw [lkTo, if_pos (.inl h)]; simp [h]
set_option maxRecDepth 100000 in
theorem lkTo_read (rs ks : List Int) (n : Nat) (h : ¬ (n : Int) ∈ ks) (h' : (n : Int) ∈ rs) : lkTo rs ks (n + 1) = lkTo rs ks n ++ [((n : Int), false)] := by
  rw [lkTo, if_pos (.inr h')]; simp [h]
set_option maxRecDepth 100000 in
theorem lkTo_none (rs ks : List Int) (n : Nat) (h : ¬ (n : Int) ∈ ks) (h' : ¬ (n : Int) ∈ rs) : lkTo rs ks (n + 1) = lkTo rs ks n := by
  rw [lkTo, if_neg (by simp [h, h'])]; simp

/-- A list of locks that can be read. -/
def IsLks (w : World) (a : Option Addr) (l : List (Int × Bool)) : Prop :=
  ∀ i, i < l.length → ∃ b off, a = some ⟨b, off, none⟩ ∧ b < w.heap.size ∧ w.cell? ⟨b, off + i * 2, none⟩ = some (.int .i64 (l.getD i (0, false)).1) ∧ w.cell? ⟨b, off + i * 2 + 1, none⟩ = some (.bool (l.getD i (0, false)).2)

set_option maxRecDepth 100000 in
theorem IsLks.below {w w' : World} {a : Option Addr} {l : List (Int × Bool)} (h : IsLks w a l) (hb : Below w.heap.size w w') : IsLks w' a l := by
  intro i hi
  obtain ⟨b, off, ha, hlt, h0, h1⟩ := h i hi
  refine ⟨b, off, ha, Nat.lt_of_lt_of_le hlt hb.size, ?_, ?_⟩ <;> (rw [hb.cell hlt]; assumption)

set_option maxRecDepth 100000 in
theorem cellsL_get : ∀ (l : List (Int × Bool)) (i : Nat), i < l.length → (cellsL l)[i * 2]? = some (.int .i64 (l.getD i (0, false)).1) ∧ (cellsL l)[i * 2 + 1]? = some (.bool (l.getD i (0, false)).2)
  | [], i, h => by simp at h
  | p :: t, 0, _ => by simp [cellsL]
  | p :: t, i + 1, h => by
    have := cellsL_get t i (by simpa using h)
    have e : cellsL (p :: t) = Value.int .i64 p.1 :: Value.bool p.2 :: cellsL t := by simp [cellsL]
    rw [e]
    have e1 : (i + 1) * 2 = i * 2 + 1 + 1 := by omega
    rw [e1]
    simpa using this

set_option maxRecDepth 100000 in
theorem one_lk (x : Int) (y : Bool) : ∀ u ∈ [Value.int .i64 x, Value.bool y], u.oneCell' = true := by
  intro u hu
  simp at hu
  rcases hu with rfl | rfl <;> rfl

variable (ra ga sa : Option Addr) (rc gc sc : Nat) (rs : List Int) (gs : List Gd) (ss : List St)

end Go.Proofs.Ytcgpkonfneofdaa
