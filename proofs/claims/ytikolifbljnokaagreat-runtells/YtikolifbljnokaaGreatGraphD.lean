/-
  graph.Edges and the document's EdgesOf.
  Conditions: the transactions can be read.
-/
import Derived.Test.YtikolifbljnokaaGreatGraphB
import Derived.Test.YtikolifbljnokaaGreatGraphC
import Derived.Test.YtikolifbljnokaaGreatPlaceB
import Derived.Maps.AppendAt
import Derived.WalkKit
import Derived.WalkSpells
import Derived.WalkLawsBesides
import Derived.Defers
import Derived.Recover
import Derived.ProofKit
import Derived.Deep.RegionHeld
import Derived.Deep.RegionHeld3
import Derived.BigQuiet
import Derived.Deep.RegionLaw
import Derived.Deep.DeepCutAuto
namespace Go.Proofs.YtikolifbljnokaaGreat
open Go.RowKit

/-- Edges from one to those below m; from those below n to all. -/
def edgesIn (l : List TxA) (i : Nat) : Nat → List (Nat × Nat)
  | 0 => []
  | m + 1 => edgesIn l i m ++ (if i < m ∧ clashX (gX l i) (gX l m) = true then [(i, m)] else [])
def edgesTo (l : List TxA) : Nat → List (Nat × Nat)
  | 0 => []
  | n + 1 => edgesTo l n ++ edgesIn l n l.length
def edgesL (l : List TxA) : List (Nat × Nat) := edgesTo l l.length
theorem edgesIn_low (l : List TxA) (i : Nat) : ∀ m, m ≤ i + 1 → edgesIn l i m = []
  | 0, _ => rfl
  | m + 1, h => by rw [edgesIn, edgesIn_low l i m (by omega), if_neg (by omega)]; rfl
theorem edgesIn_on {l : List TxA} {i m : Nat} (h : i < m) (hc : clashX (gX l i) (gX l m) = true) : edgesIn l i (m + 1) = edgesIn l i m ++ [(i, m)] := by rw [edgesIn, if_pos ⟨h, hc⟩]
theorem edgesIn_off {l : List TxA} {i m : Nat} (hc : clashX (gX l i) (gX l m) = false) : edgesIn l i (m + 1) = edgesIn l i m := by rw [edgesIn, if_neg (by rw [hc]; simp)]; simp
theorem edgesIn_len (l : List TxA) (i : Nat) : ∀ m, (edgesIn l i m).length ≤ m
  | 0 => Nat.le_refl _
  | m + 1 => by
    have := edgesIn_len l i m
    rw [edgesIn, List.length_append]
    split <;> simp <;> omega
theorem edgesTo_len (l : List TxA) : ∀ n, (edgesTo l n).length ≤ n * l.length
  | 0 => by simp [edgesTo]
  | n + 1 => by
    have h1 := edgesTo_len l n
    have h2 := edgesIn_len l n l.length
    rw [edgesTo, List.length_append, Nat.add_mul]
    omega

theorem chkL_at0 {l : List TxA} (h : chkL l = 0) (k : Nat) (hk : k < l.length) : chkX (l.getD k x0) = 0 := by
  have h8 := chkL_small h
  unfold chkL at h
  rw [if_neg (by omega)] at h
  exact map_zero chkX l x0 h k hk

def cellsE (L : List (Nat × Nat)) : List Value := L.flatMap fun p => [.int .i64 p.1, .int .i64 p.2]
theorem cellsE_append (l m : List (Nat × Nat)) : cellsE (l ++ m) = cellsE l ++ cellsE m := by simp [cellsE]
/-- A list of edges that can be read. -/
def IsEds (w : World) (a : Option Addr) (L : List (Nat × Nat)) : Prop :=
  ∀ i, i < L.length → ∃ b off, a = some ⟨b, off, none⟩ ∧ b < w.heap.size ∧ w.cell? ⟨b, off + i * 2, none⟩ = some (.int .i64 (L.getD i (0, 0)).1) ∧ w.cell? ⟨b, off + i * 2 + 1, none⟩ = some (.int .i64 (L.getD i (0, 0)).2)
theorem IsEds.below {w w' : World} {a : Option Addr} {l : List (Nat × Nat)} (h : IsEds w a l) (hb : Below w.heap.size w w') : IsEds w' a l := by
  intro i hi
  obtain ⟨b, off, ha, hlt, h0, h1⟩ := h i hi
  exact ⟨b, off, ha, Nat.lt_of_lt_of_le hlt hb.size, ext_cell hb h0, ext_cell hb h1⟩
theorem cellsE_get : ∀ (l : List (Nat × Nat)) (i : Nat), i < l.length → (cellsE l)[i * 2]? = some (.int .i64 (l.getD i (0, 0)).1) ∧ (cellsE l)[i * 2 + 1]? = some (.int .i64 (l.getD i (0, 0)).2)
  | [], i, h => by simp at h
  | p :: t, 0, _ => by simp [cellsE]
  | p :: t, i + 1, h => by
    have := cellsE_get t i (by simpa using h)
    have e : cellsE (p :: t) = Value.int .i64 p.1 :: Value.int .i64 p.2 :: cellsE t := by simp [cellsE]
    rw [e]
    have e1 : (i + 1) * 2 = i * 2 + 1 + 1 := by omega
    rw [e1]
    simpa using this
theorem one_ed (x y : Int) : ∀ u ∈ [Value.int .i64 x, Value.int .i64 y], u.oneCell' = true := by
  intro u hu
  simp at hu
  rcases hu with rfl | rfl <;> rfl
theorem gotBool0 (v : Bool) (w : World) : Calls Tryz.prog 110 #[.bool v, .int .i64 0] w fun e' w' => e' = .returned (.bool v) ∧ Below w.heap.size w w' :=
  (gotBool_ok v 0 rfl w).mono fun _ _ ⟨h1, h2⟩ => ⟨h1, by rw [h2]; exact grow_alloc (Below.refl _ _) _⟩
variable (la : Option Addr) (lc : Nat) (l : List TxA)

/-- What Edges answers. -/
def edE (l : List TxA) : List (Nat × Nat) := if chkL l = 0 then edgesL l else []

end Go.Proofs.YtikolifbljnokaaGreat
