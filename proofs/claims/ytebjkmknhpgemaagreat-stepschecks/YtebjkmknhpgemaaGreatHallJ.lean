/-
  The three rows that a hall is given: parts, where one is active, locks.
  Conditions: those that each theorem states.
-/
import Derived.Test.YtebjkmknhpgemaaGreatHallI
import Derived.Test.YtebjkmknhpgemaaGreatHallB
import Derived.Test.YtebjkmknhpgemaaGreatStoreF
import Derived.Test.YtebjkmknhpgemaaGreatPlaceD
import Derived.WalkKit
import Derived.WalkSpells
import Derived.WalkLawsBesides
import Derived.Defers
import Derived.Recover
import Derived.ProofKit
import Derived.Deep.RegionHeld
import Derived.Deep.RegionHeld3
import Derived.Deep.RegionLaw
import Derived.Deep.DeepCutAuto
import Derived.Deep.QuietTactic
import Derived.BigQuiet
import Derived.Maps.AppendAt
import Derived.Lib.SliceRun
import Derived.Deep.AppendLies
namespace Go.Proofs.YtebjkmknhpgemaaGreat
open Go.RowKit

theorem get_app {α : Type} (L : List α) (x d : α) (i : Nat) (hi : i < (L ++ [x]).length) : (i < L.length ∧ (L ++ [x]).getD i d = L.getD i d) ∨ (i = L.length ∧ (L ++ [x]).getD i d = x) := by
  rw [List.length_append, List.length_singleton] at hi
  by_cases h : i < L.length
  · left; exact ⟨h, by simp [List.getD, List.getElem?_append_left h]⟩
  · right
    have e : i = L.length := by omega
    subst e
    exact ⟨rfl, by simp [List.getD]⟩
/-- A block that is none of the three rows' own. -/
def Far3 (v5 v6 v7 : Value) (b : Nat) : Prop := v5.ownBlock ≠ some b ∧ v6.ownBlock ≠ some b ∧ v7.ownBlock ≠ some b
theorem far_to5 {v5 v6 v7 v5' : Value} {b sz : Nat} (h : Far3 v5 v6 v7 b) (hb : b < sz) (hv : v5'.ownBlock = v5.ownBlock ∨ v5'.ownBlock = some sz) : Far3 v5' v6 v7 b := by
  refine ⟨?_, ?_, ?_⟩
  · rcases hv with e | e
    · rw [e]; exact h.1
    · rw [e]; intro q; injection q with q; omega
  · exact h.2.1
  · exact h.2.2
theorem far_to6 {v5 v6 v7 v6' : Value} {b sz : Nat} (h : Far3 v5 v6 v7 b) (hb : b < sz) (hv : v6'.ownBlock = v6.ownBlock ∨ v6'.ownBlock = some sz) : Far3 v5 v6' v7 b := by
  refine ⟨?_, ?_, ?_⟩
  · exact h.1
  · rcases hv with e | e
    · rw [e]; exact h.2.1
    · rw [e]; intro q; injection q with q; omega
  · exact h.2.2
theorem far_to7 {v5 v6 v7 v7' : Value} {b sz : Nat} (h : Far3 v5 v6 v7 b) (hb : b < sz) (hv : v7'.ownBlock = v7.ownBlock ∨ v7'.ownBlock = some sz) : Far3 v5 v6 v7' b := by
  refine ⟨?_, ?_, ?_⟩
  · exact h.1
  · exact h.2.1
  · rcases hv with e | e
    · rw [e]; exact h.2.2
    · rw [e]; intro q; injection q with q; omega
/-- Rows of truths behind a row's cells. -/
def Inn (C : Nat) (w : World) (v5 v6 v7 : Value) (sh : Nat) (F : Nat → Nat → Bool) (L : List (Nat × Nat)) : Prop :=
  ∀ i, i < L.length → C ≤ (L.getD i (0, 0)).1 ∧ (L.getD i (0, 0)).1 < w.heap.size ∧ Far3 v5 v6 v7 (L.getD i (0, 0)).1 ∧ ∀ j, j < sh → w.cell? ⟨(L.getD i (0, 0)).1, j, none⟩ = some (.bool (F i j))
def InnL (C : Nat) (w : World) (v5 v6 v7 : Value) (l : List TxA) (L : List (Option Addr × Nat × Nat)) : Prop :=
  ∀ i, i < L.length → (L.getD i (none, 0, 0)).2.1 = (lkX (gX l i)).length ∧ IsLks w (L.getD i (none, 0, 0)).1 (lkX (gX l i)) ∧ ∀ ad, (L.getD i (none, 0, 0)).1 = some ad → C ≤ ad.block ∧ ad.block < w.heap.size ∧ Far3 v5 v6 v7 ad.block
/-- The three rows that a hall is given, one by one. -/
structure Tri (C : Nat) (w : World) (v5 v6 v7 : Value) (sh : Nat) (l : List TxA) (L5 L6 : List (Nat × Nat)) (L7 : List (Option Addr × Nat × Nat)) : Prop where
  o5 : w.ownsRow C 65 1 v5 L5.length (L5.map fun p => Value.slice (some ⟨p.1, 0, none⟩) sh p.2)
  o6 : w.ownsRow C 65 1 v6 L6.length (L6.map fun p => Value.slice (some ⟨p.1, 0, none⟩) sh p.2)
  o7 : w.ownsRow C 131 1 v7 L7.length (L7.map fun p => Value.slice p.1 p.2.1 p.2.2)
  d56 : ∀ j, v5.ownBlock = some j → v6.ownBlock ≠ some j
  d57 : ∀ j, v5.ownBlock = some j → v7.ownBlock ≠ some j
  d67 : ∀ j, v6.ownBlock = some j → v7.ownBlock ≠ some j
  i5 : Inn C w v5 v6 v7 sh (fun n k => ptB sh (gX l n) k) L5
  i6 : Inn C w v5 v6 v7 sh (fun n k => acB sh (gX l n) k) L6
  i7 : InnL C w v5 v6 v7 l L7
theorem Inn.kept {C : Nat} {w w' : World} {v5 v6 v7 u5 u6 u7 : Value} {sh : Nat} {F : Nat → Nat → Bool} {L : List (Nat × Nat)} {row : Option Nat} (h : Inn C w v5 v6 v7 sh F L) (hg : w.grownBy w' row) (hr : ∀ b, C ≤ b → b < w.heap.size → Far3 v5 v6 v7 b → row ≠ some b ∧ Far3 u5 u6 u7 b) : Inn C w' u5 u6 u7 sh F L := fun i hi => by
  obtain ⟨h1, h2, h3, h4⟩ := h i hi
  obtain ⟨q1, q2⟩ := hr _ h1 h2 h3
  exact ⟨h1, Nat.lt_of_lt_of_le h2 hg.size, q2, fun j hj => hg.cell (h4 j hj) (fun e => q1 e.symm)⟩
theorem IsLks.keptBy {w w' : World} {row : Option Nat} {a : Option Addr} {L : List (Int × Bool)} (h : IsLks w a L) (hg : w.grownBy w' row) (hr : ∀ ad, a = some ad → row ≠ some ad.block) : IsLks w' a L := fun i hi => by
  obtain ⟨b, off, ha, hlt, c0, c1⟩ := h i hi
  have hn : some b ≠ row := fun e => hr _ ha e.symm
  exact ⟨b, off, ha, Nat.lt_of_lt_of_le hlt hg.size, hg.cell c0 hn, hg.cell c1 hn⟩
theorem InnL.kept {C : Nat} {w w' : World} {v5 v6 v7 u5 u6 u7 : Value} {l : List TxA} {L : List (Option Addr × Nat × Nat)} {row : Option Nat} (h : InnL C w v5 v6 v7 l L) (hg : w.grownBy w' row) (hr : ∀ b, C ≤ b → b < w.heap.size → Far3 v5 v6 v7 b → row ≠ some b ∧ Far3 u5 u6 u7 b) : InnL C w' u5 u6 u7 l L := fun i hi => by
  obtain ⟨h1, h2, h3⟩ := h i hi
  refine ⟨h1, h2.keptBy hg (fun ad e => ?_), fun ad e => ?_⟩
  · obtain ⟨q1, q2, q3⟩ := h3 ad e
    exact (hr _ q1 q2 q3).1
  · obtain ⟨q1, q2, q3⟩ := h3 ad e
    exact ⟨q1, Nat.lt_of_lt_of_le q2 hg.size, (hr _ q1 q2 q3).2⟩
theorem own_kept {C : Nat} {w w' : World} {e size : Nat} {v : Value} {n : Nat} {xs : List Value} {row : Option Nat} (h : w.ownsRow C e size v n xs) (hg : w.grownBy w' row) (hr : ∀ j, v.ownBlock = some j → row ≠ some j) : w'.ownsRow C e size v n xs := by
  refine h.kept hg ?_
  cases ho : v.ownBlock with
  | none => exact .inl rfl
  | some j => exact .inr (fun q => hr j ho q.symm)
theorem Tri.nil (C : Nat) (w : World) (sh : Nat) (l : List TxA) : Tri C w (.slice none 0 0) (.slice none 0 0) (.slice none 0 0) sh l [] [] [] :=
  ⟨World.ownsRow_nil _ _ _ _, World.ownsRow_nil _ _ _ _, World.ownsRow_nil _ _ _ _, (fun j e => by cases e), (fun j e => by cases e), (fun j e => by cases e), fun i hi => absurd hi (Nat.not_lt_zero _), fun i hi => absurd hi (Nat.not_lt_zero _), fun i hi => absurd hi (Nat.not_lt_zero _)⟩
/-- Behind whatever writes none of the rows' own blocks, nor what they hold. -/
theorem Tri.on {C : Nat} {w w' : World} {v5 v6 v7 : Value} {sh : Nat} {l : List TxA} {L5 L6 : List (Nat × Nat)} {L7 : List (Option Addr × Nat × Nat)} {row : Option Nat} (T : Tri C w v5 v6 v7 sh l L5 L6 L7) (hg : w.grownBy w' row) (hr : ∀ j, row = some j → j < C) : Tri C w' v5 v6 v7 sh l L5 L6 L7 := by
  have far : ∀ b, C ≤ b → row ≠ some b := fun b hb e => by have := hr b e; omega
  exact ⟨own_kept T.o5 hg (fun j e => far j (T.o5.lt j e).1), own_kept T.o6 hg (fun j e => far j (T.o6.lt j e).1), own_kept T.o7 hg (fun j e => far j (T.o7.lt j e).1), T.d56, T.d57, T.d67, T.i5.kept hg (fun b h1 _ h3 => ⟨far b h1, h3⟩), T.i6.kept hg (fun b h1 _ h3 => ⟨far b h1, h3⟩), T.i7.kept hg (fun b h1 _ h3 => ⟨far b h1, h3⟩)⟩
theorem Tri.below {C : Nat} {w w' : World} {v5 v6 v7 : Value} {sh : Nat} {l : List TxA} {L5 L6 : List (Nat × Nat)} {L7 : List (Option Addr × Nat × Nat)} (T : Tri C w v5 v6 v7 sh l L5 L6 L7) (hb : Below w.heap.size w w') : Tri C w' v5 v6 v7 sh l L5 L6 L7 := T.on (grownBy_of_below hb none) (fun j e => by cases e)
theorem new_far {v v' : Value} {sz : Nat} {u : Value} (hv : v'.ownBlock = v.ownBlock ∨ v'.ownBlock = some sz) (h : ∀ j, v.ownBlock = some j → u.ownBlock ≠ some j) (hu : ∀ j, u.ownBlock = some j → j < sz) : ∀ j, v'.ownBlock = some j → u.ownBlock ≠ some j := fun j e q => by
  rcases hv with x | x
  · rw [x] at e; exact h j e q
  · rw [x] at e; injection e with e; have := hu j q; omega
theorem Tri.push5 {C : Nat} {w w' : World} {v5 v6 v7 v5' : Value} {sh : Nat} {l : List TxA} {L5 L6 : List (Nat × Nat)} {L7 : List (Option Addr × Nat × Nat)} (T : Tri C w v5 v6 v7 sh l L5 L6 L7) (g c : Nat)
    (ho : w'.ownsRow C 65 1 v5' (L5.length + 1) ((L5.map fun p => Value.slice (some ⟨p.1, 0, none⟩) sh p.2) ++ [.slice (some ⟨g, 0, none⟩) sh c])) (hg : w.grownBy w' v5.ownBlock) (hv : v5'.ownBlock = v5.ownBlock ∨ v5'.ownBlock = some w.heap.size)
    (h1 : C ≤ g) (h2 : g < w.heap.size) (h3 : Far3 v5 v6 v7 g) (h4 : ∀ j, j < sh → w.cell? ⟨g, j, none⟩ = some (.bool (ptB sh (gX l L5.length) j))) : Tri C w' v5' v6 v7 sh l (L5 ++ [(g, c)]) L6 L7 := by
  have hf : ∀ b, C ≤ b → b < w.heap.size → Far3 v5 v6 v7 b → v5.ownBlock ≠ some b ∧ Far3 v5' v6 v7 b := fun b _ q2 q3 => ⟨q3.1, far_to5 q3 q2 hv⟩
  refine ⟨by rw [List.length_append, List.map_append]; exact ho, own_kept T.o6 hg (fun j e q => T.d56 j q e), own_kept T.o7 hg (fun j e q => T.d57 j q e), new_far hv T.d56 (fun j e => (T.o6.lt j e).2), new_far hv T.d57 (fun j e => (T.o7.lt j e).2), T.d67, fun i hi => ?_, T.i6.kept hg hf, T.i7.kept hg hf⟩
  rcases get_app L5 (g, c) (0, 0) i hi with ⟨q1, q2⟩ | ⟨q1, q2⟩
  · rw [q2]; exact (T.i5.kept hg hf) i q1
  · rw [q2, q1]; exact ⟨h1, Nat.lt_of_lt_of_le h2 hg.size, (hf g h1 h2 h3).2, fun j hj => hg.cell (h4 j hj) (fun e => h3.1 e.symm)⟩
theorem Tri.push6 {C : Nat} {w w' : World} {v5 v6 v7 v6' : Value} {sh : Nat} {l : List TxA} {L5 L6 : List (Nat × Nat)} {L7 : List (Option Addr × Nat × Nat)} (T : Tri C w v5 v6 v7 sh l L5 L6 L7) (g c : Nat)
    (ho : w'.ownsRow C 65 1 v6' (L6.length + 1) ((L6.map fun p => Value.slice (some ⟨p.1, 0, none⟩) sh p.2) ++ [.slice (some ⟨g, 0, none⟩) sh c])) (hg : w.grownBy w' v6.ownBlock) (hv : v6'.ownBlock = v6.ownBlock ∨ v6'.ownBlock = some w.heap.size)
    (h1 : C ≤ g) (h2 : g < w.heap.size) (h3 : Far3 v5 v6 v7 g) (h4 : ∀ j, j < sh → w.cell? ⟨g, j, none⟩ = some (.bool (acB sh (gX l L6.length) j))) : Tri C w' v5 v6' v7 sh l L5 (L6 ++ [(g, c)]) L7 := by
  have hf : ∀ b, C ≤ b → b < w.heap.size → Far3 v5 v6 v7 b → v6.ownBlock ≠ some b ∧ Far3 v5 v6' v7 b := fun b _ q2 q3 => ⟨q3.2.1, far_to6 q3 q2 hv⟩
  refine ⟨own_kept T.o5 hg (fun j e q => T.d56 j e q), by rw [List.length_append, List.map_append]; exact ho, own_kept T.o7 hg (fun j e q => T.d67 j q e), fun j e q => (new_far hv (fun j e q => T.d56 j q e) (fun j e => (T.o5.lt j e).2)) j q e, T.d57, new_far hv T.d67 (fun j e => (T.o7.lt j e).2), T.i5.kept hg hf, fun i hi => ?_, T.i7.kept hg hf⟩
  rcases get_app L6 (g, c) (0, 0) i hi with ⟨q1, q2⟩ | ⟨q1, q2⟩
  · rw [q2]; exact (T.i6.kept hg hf) i q1
  · rw [q2, q1]; exact ⟨h1, Nat.lt_of_lt_of_le h2 hg.size, (hf g h1 h2 h3).2, fun j hj => hg.cell (h4 j hj) (fun e => h3.2.1 e.symm)⟩
theorem Tri.push7 {C : Nat} {w w' : World} {v5 v6 v7 v7' : Value} {sh : Nat} {l : List TxA} {L5 L6 : List (Nat × Nat)} {L7 : List (Option Addr × Nat × Nat)} (T : Tri C w v5 v6 v7 sh l L5 L6 L7) (a : Option Addr) (c : Nat)
    (ho : w'.ownsRow C 131 1 v7' (L7.length + 1) ((L7.map fun p => Value.slice p.1 p.2.1 p.2.2) ++ [.slice a (lkX (gX l L7.length)).length c])) (hg : w.grownBy w' v7.ownBlock) (hv : v7'.ownBlock = v7.ownBlock ∨ v7'.ownBlock = some w.heap.size)
    (h1 : IsLks w a (lkX (gX l L7.length))) (h2 : ∀ ad, a = some ad → C ≤ ad.block ∧ ad.block < w.heap.size ∧ Far3 v5 v6 v7 ad.block) : Tri C w' v5 v6 v7' sh l L5 L6 (L7 ++ [(a, (lkX (gX l L7.length)).length, c)]) := by
  have hf : ∀ b, C ≤ b → b < w.heap.size → Far3 v5 v6 v7 b → v7.ownBlock ≠ some b ∧ Far3 v5 v6 v7' b := fun b _ q2 q3 => ⟨q3.2.2, far_to7 q3 q2 hv⟩
  refine ⟨own_kept T.o5 hg (fun j e q => T.d57 j e q), own_kept T.o6 hg (fun j e q => T.d67 j e q), by rw [List.length_append, List.map_append]; exact ho, T.d56, fun j e q => (new_far hv (fun j e q => T.d57 j q e) (fun j e => (T.o5.lt j e).2)) j q e, fun j e q => (new_far hv (fun j e q => T.d67 j q e) (fun j e => (T.o6.lt j e).2)) j q e, T.i5.kept hg hf, T.i6.kept hg hf, fun i hi => ?_⟩
  rcases get_app L7 (a, (lkX (gX l L7.length)).length, c) (none, 0, 0) i hi with ⟨q1, q2⟩ | ⟨q1, q2⟩
  · rw [q2]; exact (T.i7.kept hg hf) i q1
  · rw [q2, q1]
    refine ⟨rfl, h1.keptBy hg (fun ad e => (hf _ (h2 ad e).1 (h2 ad e).2.1 (h2 ad e).2.2).1), fun ad e => ?_⟩
    obtain ⟨p1, p2, p3⟩ := h2 ad e
    exact ⟨p1, Nat.lt_of_lt_of_le p2 hg.size, (hf _ p1 p2 p3).2⟩
/-- The rows as they are read. -/
theorem Tri.br5 {C : Nat} {w : World} {v5 v6 v7 : Value} {sh : Nat} {l : List TxA} {L5 L6 : List (Nat × Nat)} {L7 : List (Option Addr × Nat × Nat)} (T : Tri C w v5 v6 v7 sh l L5 L6 L7) : ∃ a cap, v5 = .slice a L5.length cap ∧ IsBR C w a L5.length sh (fun n k => ptB sh (gX l n) k) := by
  rcases T.o5.2 with ⟨h, h0⟩ | ⟨g, cap, cur, h, hb, hg, _⟩
  · exact ⟨none, 0, by rw [h, h0], fun i hi => by omega⟩
  · subst h
    refine ⟨some ⟨g, 0, none⟩, cap, rfl, fun i hi => ?_⟩
    obtain ⟨q1, q2, q3, q4⟩ := T.i5 i hi
    have hc := T.o5.cells (g := g) rfl i (.slice (some ⟨(L5.getD i (0, 0)).1, 0, none⟩) sh (L5.getD i (0, 0)).2) (by simp [List.getD, hi])
    rw [add_none, Nat.zero_add] at hc
    exact ⟨g, 0, (L5.getD i (0, 0)).1, 0, (L5.getD i (0, 0)).2, rfl, ⟨hb, (Array.getElem?_eq_some_iff.1 hg).1⟩, ⟨q1, q2⟩, by rw [Nat.zero_add]; exact hc, fun k hk => by rw [Nat.zero_add]; exact q4 k hk⟩
theorem Tri.br6 {C : Nat} {w : World} {v5 v6 v7 : Value} {sh : Nat} {l : List TxA} {L5 L6 : List (Nat × Nat)} {L7 : List (Option Addr × Nat × Nat)} (T : Tri C w v5 v6 v7 sh l L5 L6 L7) : ∃ a cap, v6 = .slice a L6.length cap ∧ IsBR C w a L6.length sh (fun n k => acB sh (gX l n) k) := by
  rcases T.o6.2 with ⟨h, h0⟩ | ⟨g, cap, cur, h, hb, hg, _⟩
  · exact ⟨none, 0, by rw [h, h0], fun i hi => by omega⟩
  · subst h
    refine ⟨some ⟨g, 0, none⟩, cap, rfl, fun i hi => ?_⟩
    obtain ⟨q1, q2, q3, q4⟩ := T.i6 i hi
    have hc := T.o6.cells (g := g) rfl i (.slice (some ⟨(L6.getD i (0, 0)).1, 0, none⟩) sh (L6.getD i (0, 0)).2) (by simp [List.getD, hi])
    rw [add_none, Nat.zero_add] at hc
    exact ⟨g, 0, (L6.getD i (0, 0)).1, 0, (L6.getD i (0, 0)).2, rfl, ⟨hb, (Array.getElem?_eq_some_iff.1 hg).1⟩, ⟨q1, q2⟩, by rw [Nat.zero_add]; exact hc, fun k hk => by rw [Nat.zero_add]; exact q4 k hk⟩
theorem Tri.lr7 {C : Nat} {w : World} {v5 v6 v7 : Value} {sh : Nat} {l : List TxA} {L5 L6 : List (Nat × Nat)} {L7 : List (Option Addr × Nat × Nat)} (T : Tri C w v5 v6 v7 sh l L5 L6 L7) (hn : L7.length = l.length) : ∃ a cap, v7 = .slice a L7.length cap ∧ IsLR C w a l := by
  rcases T.o7.2 with ⟨h, h0⟩ | ⟨g, cap, cur, h, hb, hg, _⟩
  · exact ⟨none, 0, by rw [h, h0], fun i hi => by omega⟩
  · subst h
    refine ⟨some ⟨g, 0, none⟩, cap, rfl, fun i hi => ?_⟩
    have hi7 : i < L7.length := by omega
    obtain ⟨q1, q2, q3⟩ := T.i7 i hi7
    have hc := T.o7.cells (g := g) rfl i (.slice (L7.getD i (none, 0, 0)).1 (L7.getD i (none, 0, 0)).2.1 (L7.getD i (none, 0, 0)).2.2) (by simp [List.getD, hi7])
    rw [add_none, Nat.zero_add, q1] at hc
    exact ⟨g, 0, (L7.getD i (none, 0, 0)).1, (L7.getD i (none, 0, 0)).2.2, rfl, ⟨hb, (Array.getElem?_eq_some_iff.1 hg).1⟩, by rw [Nat.zero_add]; exact hc, q2, fun ad e => (q3 ad e).1⟩

/-- An append of one slice to a row of slices of one's own, at a step of a region that draws its order. -/
theorem step_append_sl {w : World} {ops : Array Oper} {o : Oper} {a : Act} {K : Act → World → Prop} {Q : Exit → Act → World → Prop} {E : Prop} (hgd : o.guard = none) (s x : Operand) (t e : TypeId)
    (ho : o.op = .call { callee := .builtin .append, args := #[s, x], argTypes := #[t, t] }) (i : TypeInfo) (z : Value) (ht : Tryz.prog.underlying t = some (.slice e)) (hi : Tryz.prog.info? e = some i) (hz : i.zero = some z) (h1 : i.size = 1) (h24 : i.bytes = 24) (hzs : z.cells.size = 1)
    (C : Nat) (v : Value) (n : Nat) (xs : List Value) (hs : a.eval s = v) (hown : w.ownsRow C e 1 v n xs)
    (ad : Addr) (c : Nat) (u : Value) (hx : a.eval x = .slice (some ad) 1 c) (hnews : w.cell? ad = some u) (hu : u.oneCell' = true)
    (hsm : n ≤ 100) (hbase : C ≤ w.heap.size)
    (h : ∀ v' w', w'.ownsRow C e 1 v' (n + 1) (xs ++ [u]) → w.grownBy w' v.ownBlock → (v'.ownBlock = v.ownBlock ∨ v'.ownBlock = some w.heap.size) → K (a.put o.dst v') w') :
    if Region.wanted o (yielded ops a.tmps) = true then Oper.wp Tryz.prog o a w K Q else E := by
  have hw : Region.wanted o (yielded ops a.tmps) = true := by simp [Region.wanted, hgd]
  rw [if_pos hw]
  obtain ⟨v', w', hrun, h2, h3, _, h5⟩ := run_append_own_at (P := Tryz.prog) w C t o.type e i z 1 24 ht hi hz h1 h24 hzs (by decide) v n xs hown ad 1 c [u] rfl (fun j q hj => by
    match j, hj with
    | 0, hj => simp at hj; subst hj; simpa [Addr.add] using hnews
    | j + 1, hj => simp at hj) (fun q hq => by simp at hq; subst hq; exact hu) (by unfold maxLen; omega) (by omega) hbase
  unfold Oper.wp execOp
  simp only [ho, resolve, invoke, builtin, Sem.run_bind, Sem.run_pure, Result.andThen_ok, List.map_toArray, List.map_cons, List.map_nil, hs, hx, hrun]
  exact h v' w' h2 h3 h5
set_option maxRecDepth 100000 in
theorem Tryz.info65 : (Tryz.prog.info? 65).map (fun i => (i.zero, i.size, i.bytes)) = some (some (.slice none 0 0), 1, 24) := by kernel_rfl
set_option maxRecDepth 100000 in
theorem Tryz.info131 : (Tryz.prog.info? 131).map (fun i => (i.zero, i.size, i.bytes)) = some (some (.slice none 0 0), 1, 24) := by kernel_rfl
set_option maxRecDepth 100000 in
theorem gotBools_ok (a : Option Addr) (k c : Nat) (w : World) : Calls Tryz.prog 95 #[.slice a k c, .int .i64 0] w fun e' w' => e' = .returned (.slice a k c) ∧ w' = w.alloc (.cells #[.int .i64 0] 30) := by
  go_enter Tryz.func95, Tryz.ntmps95
  go_wp2_with fail
  refine (leave_zero [0] _ 1 _ (by simp) rfl (errs1 _ _ _ rfl)).mono ?_
  rintro e w' ⟨rfl, rfl⟩
  go_wp2
  go_ret
  exact ⟨rfl, rfl⟩

set_option maxRecDepth 100000 in
set_option maxHeartbeats 1000000 in
theorem part_own (la : Option Addr) (lc : Nat) (l : List TxA) (sh k : Nat) (w : World) (hl : IsTxs w la l) (he : pnE sh l k = 0) :
    Calls Tryz.prog 38 #[.agg #[.int .i64 sh, .slice la l.length lc], .int .i64 k] w fun e w' => ∃ g c, e = .returned (.tuple #[.slice (some ⟨g, 0, none⟩) sh c, .int .i64 0]) ∧ w'.ownsRow w.heap.size 4 1 (.slice (some ⟨g, 0, none⟩) sh c) sh ((marks sh (keysIn (locksAt l k))).map Value.bool) ∧ Below w.heap.size w w' := by
  have hmf : ∀ (fn : Fn) (first cap : Array Value) (w : World), (Instr.makeFunc fn first cap).run Tryz.prog w = .ok (.func fn first cap) w := fun _ _ _ _ => rfl
  have hg : Below w.heap.size w (((w.alloc (.cells #[.int .i64 sh, .slice la l.length lc] 24)).alloc (.cells #[.int .i64 k] 3)).alloc (.cells #[.int .i64 0] 30)) := grow_alloc (grow_alloc (grow_alloc (Below.refl _ _) _) _) _
  have h0 : (((w.alloc (.cells #[.int .i64 sh, .slice la l.length lc] 24)).alloc (.cells #[.int .i64 k] 3)).alloc (.cells #[.int .i64 0] 30)).cell? ⟨w.heap.size, 0, none⟩ = some (.int .i64 sh) := ext_cell (grow_alloc (Below.refl _ _) _) (ext_cell (grow_alloc (Below.refl _ _) _) (at_new w _ 24 _ 0 _ rfl rfl))
  have h1 : (((w.alloc (.cells #[.int .i64 sh, .slice la l.length lc] 24)).alloc (.cells #[.int .i64 k] 3)).alloc (.cells #[.int .i64 0] 30)).cell? ⟨w.heap.size, 1, none⟩ = some (.slice la l.length lc) := ext_cell (grow_alloc (Below.refl _ _) _) (ext_cell (grow_alloc (Below.refl _ _) _) (at_new w _ 24 _ 1 _ rfl rfl))
  have h2 : (((w.alloc (.cells #[.int .i64 sh, .slice la l.length lc] 24)).alloc (.cells #[.int .i64 k] 3)).alloc (.cells #[.int .i64 0] 30)).cell? ⟨w.heap.size + 1, 0, none⟩ = some (.int .i64 k) := ext_cell (grow_alloc (Below.refl _ _) _) (at_new _ _ 3 _ 0 _ (by simp) rfl)
  have H : Hid (Calls Tryz.prog 87 #[.func (.func 88) #[] #[.pointer (some ⟨w.heap.size, 0, none⟩), .pointer (some ⟨w.heap.size + 1, 0, none⟩)]] ((w.alloc (.cells #[.int .i64 sh, .slice la l.length lc] 24)).alloc (.cells #[.int .i64 k] 3)) fun e w' => ∃ g c, e = .returned (.tuple #[.slice (some ⟨g, 0, none⟩) sh c, .int .i64 0]) ∧ w'.ownsRow ((w.alloc (.cells #[.int .i64 sh, .slice la l.length lc] 24)).alloc (.cells #[.int .i64 k] 3)).heap.size 4 1 (.slice (some ⟨g, 0, none⟩) sh c) sh ((marks sh (keysIn (locksAt l k))).map Value.bool) ∧ Below ((w.alloc (.cells #[.int .i64 sh, .slice la l.length lc] 24)).alloc (.cells #[.int .i64 k] 3)).heap.size ((w.alloc (.cells #[.int .i64 sh, .slice la l.length lc] 24)).alloc (.cells #[.int .i64 k] 3)) w') := caught_part_ret _ sh _ _ (part1_ok la lc l sh k _ _ _ h0 h1 h2 (hl.below hg) he)
  have hU : Hid (Below w.heap.size w ((w.alloc (.cells #[.int .i64 sh, .slice la l.length lc] 24)).alloc (.cells #[.int .i64 k] 3))) := grow_alloc (grow_alloc (Below.refl _ _) _) _
  clear h0 h1 h2 hg
  go_enter Tryz.func38, Tryz.ntmps38
  go_wp2_with fail
  refine H.out.mono ?_
  clear H
  rintro e w1 ⟨g, c, rfl, ho, hb⟩
  have hB : Hid (Below w.heap.size w w1) := grow_trans hU.out hb
  have hO : Hid (w1.ownsRow w.heap.size 4 1 (.slice (some ⟨g, 0, none⟩) sh c) sh ((marks sh (keysIn (locksAt l k))).map Value.bool)) := own_low ho hU.out.size
  clear hb ho
  go_wp2
  go_ret2
  exact ⟨g, c, rfl, hO.out, hB.out⟩

set_option maxRecDepth 100000 in
set_option maxHeartbeats 1000000 in
theorem active_own (la : Option Addr) (lc : Nat) (l : List TxA) (sh k : Nat) (w : World) (hl : IsTxs w la l) (he : pnE sh l k = 0) :
    Calls Tryz.prog 39 #[.agg #[.int .i64 sh, .slice la l.length lc], .int .i64 k] w fun e w' => ∃ g c, e = .returned (.tuple #[.slice (some ⟨g, 0, none⟩) sh c, .int .i64 0]) ∧ w'.ownsRow w.heap.size 4 1 (.slice (some ⟨g, 0, none⟩) sh c) sh ((marks sh (setsIn (locksAt l k))).map Value.bool) ∧ Below w.heap.size w w' := by
  have hmf : ∀ (fn : Fn) (first cap : Array Value) (w : World), (Instr.makeFunc fn first cap).run Tryz.prog w = .ok (.func fn first cap) w := fun _ _ _ _ => rfl
  have hg : Below w.heap.size w (((w.alloc (.cells #[.int .i64 sh, .slice la l.length lc] 24)).alloc (.cells #[.int .i64 k] 3)).alloc (.cells #[.int .i64 0] 30)) := grow_alloc (grow_alloc (grow_alloc (Below.refl _ _) _) _) _
  have h0 : (((w.alloc (.cells #[.int .i64 sh, .slice la l.length lc] 24)).alloc (.cells #[.int .i64 k] 3)).alloc (.cells #[.int .i64 0] 30)).cell? ⟨w.heap.size, 0, none⟩ = some (.int .i64 sh) := ext_cell (grow_alloc (Below.refl _ _) _) (ext_cell (grow_alloc (Below.refl _ _) _) (at_new w _ 24 _ 0 _ rfl rfl))
  have h1 : (((w.alloc (.cells #[.int .i64 sh, .slice la l.length lc] 24)).alloc (.cells #[.int .i64 k] 3)).alloc (.cells #[.int .i64 0] 30)).cell? ⟨w.heap.size, 1, none⟩ = some (.slice la l.length lc) := ext_cell (grow_alloc (Below.refl _ _) _) (ext_cell (grow_alloc (Below.refl _ _) _) (at_new w _ 24 _ 1 _ rfl rfl))
  have h2 : (((w.alloc (.cells #[.int .i64 sh, .slice la l.length lc] 24)).alloc (.cells #[.int .i64 k] 3)).alloc (.cells #[.int .i64 0] 30)).cell? ⟨w.heap.size + 1, 0, none⟩ = some (.int .i64 k) := ext_cell (grow_alloc (Below.refl _ _) _) (at_new _ _ 3 _ 0 _ (by simp) rfl)
  have H : Hid (Calls Tryz.prog 87 #[.func (.func 91) #[] #[.pointer (some ⟨w.heap.size, 0, none⟩), .pointer (some ⟨w.heap.size + 1, 0, none⟩)]] ((w.alloc (.cells #[.int .i64 sh, .slice la l.length lc] 24)).alloc (.cells #[.int .i64 k] 3)) fun e w' => ∃ g c, e = .returned (.tuple #[.slice (some ⟨g, 0, none⟩) sh c, .int .i64 0]) ∧ w'.ownsRow ((w.alloc (.cells #[.int .i64 sh, .slice la l.length lc] 24)).alloc (.cells #[.int .i64 k] 3)).heap.size 4 1 (.slice (some ⟨g, 0, none⟩) sh c) sh ((marks sh (setsIn (locksAt l k))).map Value.bool) ∧ Below ((w.alloc (.cells #[.int .i64 sh, .slice la l.length lc] 24)).alloc (.cells #[.int .i64 k] 3)).heap.size ((w.alloc (.cells #[.int .i64 sh, .slice la l.length lc] 24)).alloc (.cells #[.int .i64 k] 3)) w') := caught_active_ret _ sh _ _ (active1_ok la lc l sh k _ _ _ h0 h1 h2 (hl.below hg) he)
  have hU : Hid (Below w.heap.size w ((w.alloc (.cells #[.int .i64 sh, .slice la l.length lc] 24)).alloc (.cells #[.int .i64 k] 3))) := grow_alloc (grow_alloc (Below.refl _ _) _) _
  clear h0 h1 h2 hg
  go_enter Tryz.func39, Tryz.ntmps39
  go_wp2_with fail
  refine H.out.mono ?_
  clear H
  rintro e w1 ⟨g, c, rfl, ho, hb⟩
  have hB : Hid (Below w.heap.size w w1) := grow_trans hU.out hb
  have hO : Hid (w1.ownsRow w.heap.size 4 1 (.slice (some ⟨g, 0, none⟩) sh c) sh ((marks sh (setsIn (locksAt l k))).map Value.bool)) := own_low ho hU.out.size
  clear hb ho
  go_wp2
  go_ret2
  exact ⟨g, c, rfl, hO.out, hB.out⟩
end Go.Proofs.YtebjkmknhpgemaaGreat
