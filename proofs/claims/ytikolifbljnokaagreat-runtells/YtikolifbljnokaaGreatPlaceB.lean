/-
  Lists of truths; place.shardsOf: of each shard whether one of these keys lies there.
  Conditions: one to four shards; the keys can be read, and are keys.
-/
import Derived.Test.YtikolifbljnokaaGreatPlaceA
import Derived.Test.YtikolifbljnokaaGreatTxnI
import Derived.OwnWalk
import Derived.Laws.OwnMore
import Derived.WalkKit
import Derived.WalkSpells
import Derived.WalkLawsBesides
import Derived.Defers
import Derived.Recover
import Derived.ProofKit
import Derived.Deep.RegionHeld
import Derived.Deep.RegionHeld3
import Derived.BigQuiet
namespace Go.Proofs.YtikolifbljnokaaGreat
open Go.RowKit

set_option maxRecDepth 100000 in
theorem Tryz.info4 : (Tryz.prog.info? 4).map (fun i => (i.zero, i.size, i.bytes)) = some (some (.bool false), 1, 1) := by kernel_rfl

/-- A list of truths that can be read. -/
def IsBools (w : World) (a : Option Addr) (bs : List Bool) : Prop :=
  ∀ i, i < bs.length → ∃ b off, a = some ⟨b, off, none⟩ ∧ b < w.heap.size ∧ w.cell? ⟨b, off + i, none⟩ = some (.bool (bs.getD i false))
theorem IsBools.below {w w' : World} {a : Option Addr} {bs : List Bool} (h : IsBools w a bs) (hb : Below w.heap.size w w') : IsBools w' a bs := fun i hi => by
  obtain ⟨b, off, ha, hlt, c0⟩ := h i hi
  exact ⟨b, off, ha, Nat.lt_of_lt_of_le hlt hb.size, ext_cell hb c0⟩
theorem bools_of_owns {w : World} {base g n cap : Nat} {bs : List Bool} (h : w.ownsRow base 4 1 (.slice (some ⟨g, 0, none⟩) n cap) n (bs.map Value.bool)) : IsBools w (some ⟨g, 0, none⟩) bs := fun i hi => by
  rcases h.2 with ⟨h0, _⟩ | ⟨g', cap', cur, he, hb, hg, hnc, hcm, hcs, htake⟩
  · cases h0
  · injection he with e1 e2 e3
    injection e1 with e1
    injection e1 with e1 _ _
    subst e1
    have hc := h.cells (g := g) rfl i (.bool (bs.getD i false)) (by simp [List.getD, hi])
    rw [add_none] at hc
    exact ⟨g, 0, rfl, (Array.getElem?_eq_some_iff.1 hg).1, hc⟩

/-- Where keys lie. -/
def marks (sh : Nat) (ks : List Int) : List Bool := ks.foldl (fun bs k => bs.set (k.toNat % sh) true) (List.replicate sh false)
theorem marks_snoc (sh : Nat) (ks : List Int) (k : Int) : marks sh (ks ++ [k]) = (marks sh ks).set (k.toNat % sh) true := by simp [marks]
theorem marks_len (sh : Nat) : ∀ ks, (marks sh ks).length = sh := fun ks => by
  have h : ∀ (l : List Int) (bs : List Bool), (l.foldl (fun bs k => bs.set (k.toNat % sh) true) bs).length = bs.length := by
    intro l
    induction l with
    | nil => intro bs; rfl
    | cons k t ih => intro bs; rw [List.foldl_cons, ih]; simp
  rw [marks, h, List.length_replicate]
theorem marks_take (sh : Nat) (ks : List Int) (k : Nat) (h : k < ks.length) : marks sh (ks.take (k + 1)) = (marks sh (ks.take k)).set ((ks.getD k 0).toNat % sh) true := by
  rw [List.take_succ_eq_append_getElem h, marks_snoc]
  simp [List.getD, h]

theorem made_bools0 : (madeCells (Value.bool false).cells (0 * 1)).toList = (List.replicate 0 false).map Value.bool := by kernel_rfl
theorem made_bools1 : (madeCells (Value.bool false).cells (1 * 1)).toList = (List.replicate 1 false).map Value.bool := by kernel_rfl
theorem made_bools2 : (madeCells (Value.bool false).cells (2 * 1)).toList = (List.replicate 2 false).map Value.bool := by kernel_rfl
theorem made_bools3 : (madeCells (Value.bool false).cells (3 * 1)).toList = (List.replicate 3 false).map Value.bool := by kernel_rfl
theorem made_bools4 : (madeCells (Value.bool false).cells (4 * 1)).toList = (List.replicate 4 false).map Value.bool := by kernel_rfl
theorem made_bools (n : Nat) (h : n ≤ 4) : (madeCells (Value.bool false).cells (n * 1)).toList = (List.replicate n false).map Value.bool := by
  have e : n = 0 ∨ n = 1 ∨ n = 2 ∨ n = 3 ∨ n = 4 := by omega
  rcases e with rfl | rfl | rfl | rfl | rfl
  · exact made_bools0
  · exact made_bools1
  · exact made_bools2
  · exact made_bools3
  · exact made_bools4

theorem bool_cell {w : World} {base g n cap : Nat} {bs : List Bool} (h : w.ownsRow base 4 1 (.slice (some ⟨g, 0, none⟩) n cap) n (bs.map Value.bool)) (i : Nat) (hi : i < bs.length) : w.cell? ⟨g, i, none⟩ = some (.bool (bs.getD i false)) := by
  have hc := h.cells (g := g) rfl i (.bool (bs.getD i false)) (by simp [List.getD, hi])
  rw [add_none] at hc
  simpa using hc

theorem grown_one (w : World) (b i : Nat) (v : Value) : w.grownBy (w.setCell ⟨b, i, none⟩ v) (some b) := ⟨rfl, rfl, rfl, by simp, fun j _ hj => Below.heap_setCell w ⟨b, i, none⟩ v j (fun h => hj (by rw [h]))⟩
theorem own_low {w : World} {base base' : Nat} {e : TypeId} {size : Nat} {v : Value} {n : Nat} {xs : List Value} (h : w.ownsRow base e size v n xs) (hb : base' ≤ base) : w.ownsRow base' e size v n xs := by
  refine ⟨h.1, ?_⟩
  rcases h.2 with hn | ⟨g, cap, cur, e1, hbg, rest⟩
  · exact .inl hn
  · exact .inr ⟨g, cap, cur, e1, Nat.le_trans hb hbg, rest⟩

variable (la : Option Addr) (lc : Nat) (l : List TxA)

end Go.Proofs.YtikolifbljnokaaGreat
