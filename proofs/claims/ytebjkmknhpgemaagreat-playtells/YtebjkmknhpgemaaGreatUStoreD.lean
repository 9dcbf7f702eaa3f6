/-
  
  Conditions: those that each theorem states.
-/
import Derived.Test.YtebjkmknhpgemaaGreatUDocA
import Derived.Lib.BufferOwn
import Derived.Maps.Range
namespace Go.Proofs.YtebjkmknhpgemaaGreat
open Go.RowKit
theorem qD {V X wa : World} (h : Below X.heap.size X wa) (hX : X.heap = (V.alloc (.cells #[.bool false, .slice none 0 0] 116)).heap) : wa.cell? ⟨V.heap.size, 0, none⟩ = some (.bool false) ∧ wa.cell? ⟨V.heap.size, 1, none⟩ = some (.slice none 0 0) ∧ ∀ j, wa.frozen? ⟨V.heap.size, j, none⟩ = false := by
 have hb : ∀ j, (⟨V.heap.size, j, none⟩ : Addr).block < X.heap.size := fun j => by rw [hX]; simp
 have hc : ∀ p, X.cell? p = (V.alloc (.cells #[.bool false, .slice none 0 0] 116)).cell? p := fun p => World.cell?_of_block (by rw [hX])
 have hf : ∀ p, X.frozen? p = (V.alloc (.cells #[.bool false, .slice none 0 0] 116)).frozen? p := fun p => World.frozen?_of_block (by rw [hX])
 exact ⟨((h.cell (hb 0)).trans (hc _)).trans (by simp), ((h.cell (hb 1)).trans (hc _)).trans (by simp), fun j => ((h.frozen (hb j)).trans (hf _)).trans (by simp)⟩
theorem qP {X wa : World} (h : Below X.heap.size X wa) : X.heap.size ≤ wa.heap.size := h.size
theorem cJ (w : World) (b i : Nat) (v : Value) : w.grownBy (w.setCell ⟨b, i, none⟩ v) (some b) := ⟨rfl, rfl, rfl, by simp, fun j _ hj => Below.heap_setCell w ⟨b, i, none⟩ v j (fun h => hj (by rw [h]))⟩
theorem cZ {w w' : World} (h : Below w.heap.size w w') (row : Option Nat) : w.grownBy w' row := ⟨h.os, h.tape, h.output, h.size, fun i hi _ => h.block i hi⟩
variable (ra ga sa : Option Addr) (rc gc sc : Nat) (rs : List Int) (gs : List Gd) (ss : List St)
end Go.Proofs.YtebjkmknhpgemaaGreat
