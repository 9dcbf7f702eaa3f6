/-
  The document's RunOf, of a right transaction: whether all guards hold, a copy of the values, what the sets make of them.
  Conditions: the transaction and the values can be read; it has no error; there are as many values as reads.
-/
import Derived.Test.YtikolifbljnokaaTxnK
import Derived.Laws.AppendOwnNone
import Derived.WalkKit
import Derived.WalkSpells
import Derived.WalkLawsBesides
import Derived.Defers
import Derived.Recover
import Derived.ProofKit
import Derived.Deep.RegionHeld
import Derived.Deep.RegionHeld3
import Derived.BigQuiet
namespace Go.Proofs.Ytikolifbljnokaa
open Go.RowKit

set_option maxRecDepth 100000 in
theorem allG_all (zs : List Int) : ∀ (l : List Gd), allG zs l = l.all (gHold zs)
  | [] => rfl
  | g :: t => by
    unfold allG
    rw [allG_all zs t, List.all_cons]
    by_cases h : gHold zs g = true
    · rw [if_pos h, h, Bool.true_and]
    · rw [if_neg h]; simp at h; rw [h, Bool.false_and]

set_option maxRecDepth 100000 in
theorem all_take_succ (zs : List Int) (l : List Gd) (k : Nat) (h : k < l.length) : (l.take (k + 1)).all (gHold zs) = ((l.take k).all (gHold zs) && gHold zs (l.getD k g0)) := by
  rw [List.take_succ_eq_append_getElem h, List.all_append]
  simp [List.getD, h]

set_option maxRecDepth 100000 in
theorem ext6b {W w' : World} {p0 p1 p2 p3 p4 p5 : Addr} {v0 v1 v2 v3 v4 v5 : Value} (hb : Below W.heap.size W w') (q0 : W.cell? p0 = some v0) (q1 : W.cell? p1 = some v1) (q2 : W.cell? p2 = some v2) (q3 : W.cell? p3 = some v3) (q4 : W.cell? p4 = some v4) (q5 : W.cell? p5 = some v5) :
    Below W.heap.size W w' ∧ w'.cell? p0 = some v0 ∧ w'.cell? p1 = some v1 ∧ w'.cell? p2 = some v2 ∧ w'.cell? p3 = some v3 ∧ w'.cell? p4 = some v4 ∧ w'.cell? p5 = some v5 := ⟨hb, ext_cell hb q0, ext_cell hb q1, ext_cell hb q2, ext_cell hb q3, ext_cell hb q4, ext_cell hb q5⟩

set_option maxRecDepth 100000 in
theorem rset {wr W2 : World} {R : Nat} {v x y : Value} (q0 : wr.cell? ⟨R, 0, none⟩ = some x) (q1 : wr.cell? ⟨R, 1, none⟩ = some y) (qf : ∀ j, wr.frozen? ⟨R, j, none⟩ = false) (hnx : Below R W2 wr) (w' : World) (hb : Below (wr.setCell ⟨R, 0, none⟩ v).heap.size (wr.setCell ⟨R, 0, none⟩ v) w') :
    w'.cell? ⟨R, 0, none⟩ = some v ∧ w'.cell? ⟨R, 1, none⟩ = some y ∧ (∀ j, w'.frozen? ⟨R, j, none⟩ = false) ∧ Below R W2 w' := by
  have hR : R < wr.heap.size := World.block_lt_of_cell? wr _ q0
  have s0 : (wr.setCell ⟨R, 0, none⟩ v).cell? ⟨R, 0, none⟩ = some v := by simp [go_sem, q0]
  have s1 : (wr.setCell ⟨R, 0, none⟩ v).cell? ⟨R, 1, none⟩ = some y := by simp [go_sem, q1]
  have sf : ∀ j, (wr.setCell ⟨R, 0, none⟩ v).frozen? ⟨R, j, none⟩ = false := fun j => by simp [go_sem, qf]
  have hs : R < (wr.setCell ⟨R, 0, none⟩ v).heap.size := by simpa using hR
  exact ⟨ext_cell hb s0, ext_cell hb s1, fun j => (hb.frozen (p := ⟨R, j, none⟩) hs).trans (sf j), (hnx.setCell (Nat.le_refl _) _).trans (hb.mono (Nat.le_of_lt hs))⟩

set_option maxRecDepth 100000 in
theorem IsAt.belowHi {lo hi : Nat} {w w' : World} {a : Option Addr} {zs : List Int} (h : IsAt lo hi w a zs) (hb : Below hi w w') : IsAt lo hi w' a zs := fun i hi' => by
  obtain ⟨b, off, ha, h1, h2, hc⟩ := h i hi'
  exact ⟨b, off, ha, h1, h2, (hb.cell (p := ⟨b, off + i, none⟩) h2).trans hc⟩

set_option maxRecDepth 100000 in
theorem own_empty (w : World) (s base : Nat) (hs : s = w.heap.size) (hb : base ≤ s) : (w.alloc (.cells #[] 3)).ownsRow base 3 1 (.slice (some ⟨s, 0, none⟩) 0 0) 0 [] := by
  subst hs
  exact World.ownsRow_lit w #[] 0 hb (by decide) rfl

set_option maxRecDepth 100000 in
theorem news_of_ints {w : World} {zs : List Int} {ad : Addr} (hz : IsInts w (some ad) zs) : ∀ (W : World), Below w.heap.size w W → ∀ j u, (zs.map (Value.int .i64))[j]? = some u → W.cell? (ad.add j) = some u := by
  intro W hW j u hj
  have hlt : j < zs.length := by
    have := (List.getElem?_eq_some_iff.1 hj).1
    simpa using this
  obtain ⟨b, off, ha, hb, hc⟩ := hz j hlt
  injection ha with ha
  subst ha
  rw [add_none, hW.cell (p := ⟨b, off + j, none⟩) hb, hc]
  simp [hlt] at hj
  simp [List.getD, hlt, hj]

variable (ra ga sa : Option Addr) (rc gc sc : Nat) (rs : List Int) (gs : List Gd) (ss : List St) (za : Option Addr) (zc : Nat) (zs : List Int)

end Go.Proofs.Ytikolifbljnokaa
