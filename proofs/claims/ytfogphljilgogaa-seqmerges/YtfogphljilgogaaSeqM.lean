/-
  Batches of sites that came in, opened.
  Conditions: none.
-/
import Derived.Test.YtfogphljilgogaaSeqD
import Derived.Test.YtfogphljilgogaaStoreC
import Derived.WalkKit
import Derived.WalkSpells
import Derived.WalkLawsBesides
import Derived.ProofKit
import Derived.OpenShut
import Derived.ChangeOld
import Derived.Deep.Slices
import Derived.Deep.Strs
import Derived.Deep.RegionHeld3
import Derived.BigQuiet
import Derived.Lib.SmallJoins
namespace Go.Proofs.Ytfogphljilgogaa
open Go.ChangeShapes Go.WideShapes Go.ChangeAt Go.RowKit Go.Deep

section
variable {H : Type} {enc : TypeId × Value → H} {w : World} {base : Nat} {held : Bool}
set_option maxRecDepth 100000 in
theorem open_bs {n : Nat} {v : Value} {y : DataW H × List MemPlace} (h : DataW.trod enc Try.prog w base (fun _ => true) held n 74 [v] = some y) : ∃ (a : Option Addr) (bs : List BtA) (cap : Nat), v = .slice a bs.length cap ∧ bs.length ≤ maxLen ∧ IsBs w a bs := by
  have k37 : Try.prog.cellsOf 37 = 1 := by kernel_rfl
  rcases open_slice Try.underlying74 h with ⟨hcs, _⟩ | ⟨a, len, cap, m, n', D, Pl, hcs, _, hl, hm, hmm, _, hx⟩
  · simp at hcs
    exact ⟨none, [], 0, by simpa using hcs, by simp, fun i hi => absurd hi (by simp)⟩
  · simp at hcs
    have hlm : len ≤ m := by rw [hmm]; split <;> omega
    rw [k37] at hx
    have : Inhabited BtA := ⟨b0⟩
    obtain ⟨f, hf⟩ := choose_lt (α := BtA) (p := fun i x => w.cell? ((a.add (i * 1)).add 0) = some (.slice x.a x.l.length x.c) ∧ IsTxs w x.a x.l ∧ x.l.length ≤ maxLen ∧ x.l.length ≤ x.c) (n := m) (fun i hi => by
      obtain ⟨cs', h1, h2⟩ := hx i hi
      obtain ⟨_, hlen, hc⟩ := World.cells?_some h1
      match cs', hlen with
      | [c0], _ =>
        obtain ⟨ta, tl, tc, rfl, g1, g2, g3, _⟩ := open_txs h2
        exact ⟨⟨ta, tc, tl⟩, hc 0 (by omega), g3, g1, g2⟩)
    obtain ⟨b, off, spot⟩ := a
    refine ⟨some ⟨b, off, spot⟩, (List.range len).map f, cap, by simpa using hcs, by simp; omega, fun i hi => ?_⟩
    have hi' : i < len := by simpa using hi
    have hsp : spot = none := by
      have := World.cell?_spot (hf 0 (by omega)).1
      simpa [Addr.add] using this
    subst hsp
    obtain ⟨e0, e1, e2, e3⟩ := hf i (by omega)
    rw [add_add] at e0
    have eg : ((List.range len).map f).getD i b0 = f i := by simp [List.getD, hi']
    rw [eg]
    simp only [Nat.mul_one, Nat.add_zero] at e0
    exact ⟨b, off, rfl, World.block_lt_of_cell? w _ e0, e0, e1, e2, e3⟩
set_option maxRecDepth 100000 in
theorem open_sts {n : Nat} {v : Value} {y : DataW H × List MemPlace} (h : DataW.trod enc Try.prog w base (fun _ => true) held n 67 [v] = some y) : ∃ (a : Option Addr) (ss : List StA) (cap : Nat), v = .slice a ss.length cap ∧ ss.length ≤ maxLen ∧ IsSt w a ss := by
  have k74 : Try.prog.cellsOf 74 = 1 := by kernel_rfl
  rcases open_slice Try.underlying67 h with ⟨hcs, _⟩ | ⟨a, len, cap, m, n', D, Pl, hcs, _, hl, hm, hmm, _, hx⟩
  · simp at hcs
    exact ⟨none, [], 0, by simpa using hcs, by simp, fun i hi => absurd hi (by simp)⟩
  · simp at hcs
    have hlm : len ≤ m := by rw [hmm]; split <;> omega
    rw [k74] at hx
    have : Inhabited StA := ⟨st0⟩
    obtain ⟨f, hf⟩ := choose_lt (α := StA) (p := fun i x => w.cell? ((a.add (i * 1)).add 0) = some (.slice x.a x.bs.length x.c) ∧ IsBs w x.a x.bs ∧ x.bs.length ≤ maxLen) (n := m) (fun i hi => by
      obtain ⟨cs', h1, h2⟩ := hx i hi
      obtain ⟨_, hlen, hc⟩ := World.cells?_some h1
      match cs', hlen with
      | [c0], _ =>
        obtain ⟨ta, tl, tc, rfl, g1, g2⟩ := open_bs h2
        exact ⟨⟨ta, tc, tl⟩, hc 0 (by omega), g2, g1⟩)
    obtain ⟨b, off, spot⟩ := a
    refine ⟨some ⟨b, off, spot⟩, (List.range len).map f, cap, by simpa using hcs, by simp; omega, fun i hi => ?_⟩
    have hi' : i < len := by simpa using hi
    have hsp : spot = none := by
      have := World.cell?_spot (hf 0 (by omega)).1
      simpa [Addr.add] using this
    subst hsp
    obtain ⟨e0, e1, e2⟩ := hf i (by omega)
    rw [add_add] at e0
    have eg : ((List.range len).map f).getD i st0 = f i := by simp [List.getD, hi']
    rw [eg]
    simp only [Nat.mul_one, Nat.add_zero] at e0
    exact ⟨b, off, rfl, World.block_lt_of_cell? w _ e0, e0, e1, e2⟩
set_option maxRecDepth 100000 in
theorem open_q {b0 : Nat} {v : Value} {d : DataW H} {p : List MemPlace} (hv : Value.okWide Try.prog w .any b0 67 v) (h : DataW.Trod enc Try.prog w base (fun _ => true) held 67 v d p) :
    ∃ (a : Option Addr) (ss : List StA) (cap : Nat), v = .slice a ss.length cap ∧ ss.length ≤ maxLen ∧ IsSt w a ss := by
  obtain ⟨za, zl, zc, rfl⟩ := okWide_slice Try.underlying67 hv
  obtain ⟨fuel, hf⟩ := h
  exact open_sts (by simpa [Value.cells] using hf)
end
end Go.Proofs.Ytfogphljilgogaa
