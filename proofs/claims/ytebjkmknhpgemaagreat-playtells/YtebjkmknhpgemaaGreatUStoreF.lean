/-
  
  Conditions: those that each theorem states.
-/
import Derived.Test.YtebjkmknhpgemaaGreatUStoreE
set_option maxRecDepth 100000
namespace Go.Proofs.YtebjkmknhpgemaaGreat
open Go.RowKit
theorem dC {l : List TxA} (h : fL l = 0) : l.length ≤ 8 := by
 unfold fL at h
 by_cases c : 8 < l.length
 ·rw [if_pos c] at h; omega
 ·omega
theorem chkL_at {l : List TxA} (h : fL l = 0) (k : Nat) (hk : k < l.length) : eB (l.getD k x0) = 0 := by
 have h8 := dC h
 unfold fL at h
 rw [if_neg (by omega)] at h
 exact fS eB l x0 h k hk
structure Kept (g O : Nat) (v : Value) (w w' : World) : Prop where
 os : w'.os = w.os
 tape : w'.tape = w.tape
 output : w'.output = w.output
 size : w.heap.size ≤ w'.heap.size
 block : ∀ b, b < w.heap.size → b ≠ g → b ≠ O → v.ownBlock ≠ some b → w'.heap[b]? = w.heap[b]?
theorem Kept.refl (g O : Nat) (v : Value) (w : World) : Kept g O v w w := ⟨rfl, rfl, rfl, Nat.le_refl _, fun _ _ _ _ _ => rfl⟩
theorem Kept.on {g O : Nat} {v : Value} {a w w' : World} {row : Option Nat} (h : Kept g O v a w) (hg : w.grownBy w' row) (hr : ∀ j, row = some j → j = g ∨ j = O ∨ v.ownBlock = some j) : Kept g O v a w' :=
 ⟨hg.os.trans h.os, hg.tape.trans h.tape, hg.output.trans h.output, Nat.le_trans h.size hg.size, fun b hb h1 h2 h3 => (hg.block b (Nat.lt_of_lt_of_le hb h.size) (fun e => by
  rcases hr b e.symm with e | e | e
  ·exact h1 e
  ·exact h2 e
  ·exact h3 e)).trans (h.block b hb h1 h2 h3)⟩
theorem Kept.cell {g O : Nat} {v : Value} {a w : World} (h : Kept g O v a w) {b j : Nat} {u : Value} (hc : a.cell? ⟨b, j, none⟩ = some u) (h1 : b ≠ g) (h2 : b ≠ O) (h3 : v.ownBlock ≠ some b) : w.cell? ⟨b, j, none⟩ = some u :=
 (World.cell?_of_block (h.block b (World.block_lt_of_cell? a ⟨b, j, none⟩ hc) h1 h2 h3)).trans hc
section
variable {g O X C : Nat} {v st a0 a1 a2 : Value} {V : World}
end
variable (sa la : Option Addr) (sc lc : Nat) (s : List Int) (l : List TxA)
end Go.Proofs.YtebjkmknhpgemaaGreat
