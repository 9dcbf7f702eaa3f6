/-
  
  Conditions: those that each theorem states.
-/
import Derived.Test.YtcgpkonfneofdaaGreatSHallI
import Derived.Test.YtcgpkonfneofdaaGreatSStoreF
import Derived.Test.YtcgpkonfneofdaaGreatSPlaceD
import Derived.Test.YtcgpkonfneofdaaGreatSLocksX
set_option maxRecDepth 100000
namespace Go.Proofs.YtcgpkonfneofdaaGreat
open Go.RowKit
theorem get_app {α : Type} (L : List α) (x d : α) (i : Nat) (hi : i < (L ++ [x]).length) : (i < L.length ∧ (L ++ [x]).getD i d = L.getD i d) ∨ (i = L.length ∧ (L ++ [x]).getD i d = x) := by
 rw [List.length_append, List.length_singleton] at hi
 by_cases h : i < L.length
 ·left; exact ⟨h, by simp [List.getD, List.getElem?_append_left h]⟩
 ·right
  have e : i = L.length := by omega
  subst e
  exact ⟨rfl, by simp [List.getD]⟩
def Far3 (v5 v6 v7 : Value) (b : Nat) : Prop := v5.ownBlock ≠ some b ∧ v6.ownBlock ≠ some b ∧ v7.ownBlock ≠ some b
theorem far_to5 {v5 v6 v7 v5' : Value} {b sz : Nat} (h : Far3 v5 v6 v7 b) (hb : b < sz) (hv : v5'.ownBlock = v5.ownBlock ∨ v5'.ownBlock = some sz) : Far3 v5' v6 v7 b := by
 refine ⟨?_, ?_, ?_⟩
 ·rcases hv with e | e
  ·rw [e]; exact h.1
  ·rw [e]; intro q; injection q with q; omega
 ·exact h.2.1
 ·exact h.2.2
theorem far_to6 {v5 v6 v7 v6' : Value} {b sz : Nat} (h : Far3 v5 v6 v7 b) (hb : b < sz) (hv : v6'.ownBlock = v6.ownBlock ∨ v6'.ownBlock = some sz) : Far3 v5 v6' v7 b := by
 refine ⟨?_, ?_, ?_⟩
 ·exact h.1
 ·rcases hv with e | e
  ·rw [e]; exact h.2.1
  ·rw [e]; intro q; injection q with q; omega
 ·exact h.2.2
theorem far_to7 {v5 v6 v7 v7' : Value} {b sz : Nat} (h : Far3 v5 v6 v7 b) (hb : b < sz) (hv : v7'.ownBlock = v7.ownBlock ∨ v7'.ownBlock = some sz) : Far3 v5 v6 v7' b := by
 refine ⟨?_, ?_, ?_⟩
 ·exact h.1
 ·exact h.2.1
 ·rcases hv with e | e
  ·rw [e]; exact h.2.2
  ·rw [e]; intro q; injection q with q; omega
def Inn (C : Nat) (w : World) (v5 v6 v7 : Value) (sh : Nat) (F : Nat → Nat → Bool) (L : List (Nat × Nat)) : Prop :=
 ∀ i, i < L.length → C ≤ (L.getD i (0, 0)).1 ∧ (L.getD i (0, 0)).1 < w.heap.size ∧ Far3 v5 v6 v7 (L.getD i (0, 0)).1 ∧ ∀ j, j < sh → w.cell? ⟨(L.getD i (0, 0)).1, j, none⟩ = some (.bool (F i j))
def InnL (C : Nat) (w : World) (v5 v6 v7 : Value) (l : List TxA) (L : List (Option Addr × Nat × Nat)) : Prop :=
 ∀ i, i < L.length → (L.getD i (none, 0, 0)).2.1 = (lkX (gX l i)).length ∧ IsLks w (L.getD i (none, 0, 0)).1 (lkX (gX l i)) ∧ ∀ ad, (L.getD i (none, 0, 0)).1 = some ad → C ≤ ad.block ∧ ad.block < w.heap.size ∧ Far3 v5 v6 v7 ad.block
structure Tri (C : Nat) (w : World) (v5 v6 v7 : Value) (sh : Nat) (l : List TxA) (L5 L6 : List (Nat × Nat)) (L7 : List (Option Addr × Nat × Nat)) : Prop where
 o5 : w.ownsRow C 80 1 v5 L5.length (L5.map fun p => Value.slice (some ⟨p.1, 0, none⟩) sh p.2)
 o6 : w.ownsRow C 80 1 v6 L6.length (L6.map fun p => Value.slice (some ⟨p.1, 0, none⟩) sh p.2)
 o7 : w.ownsRow C 131 1 v7 L7.length (L7.map fun p => Value.slice p.1 p.2.1 p.2.2)
 d56 : ∀ j, v5.ownBlock = some j → v6.ownBlock ≠ some j
 d57 : ∀ j, v5.ownBlock = some j → v7.ownBlock ≠ some j
 d67 : ∀ j, v6.ownBlock = some j → v7.ownBlock ≠ some j
 i5 : Inn C w v5 v6 v7 sh (fun n k => ptB sh (gX l n) k) L5
 i6 : Inn C w v5 v6 v7 sh (fun n k => acB sh (gX l n) k) L6
 i7 : InnL C w v5 v6 v7 l L7
theorem Inn.kept {C : Nat} {w w' : World} {v5 v6 v7 u5 u6 u7 : Value} {sh : Nat} {F : Nat → Nat → Bool} {L : List (Nat × Nat)} {row : Option Nat} (h : Inn C w v5 v6 v7 sh F L) (hg : w.grownBy w' row) (hr : ∀ b, C ≤ b → b < w.heap.size → Far3 v5 v6 v7 b → row ≠ some b ∧ Far3 u5 u6 u7 b) : Inn C w' u5 u6 u7 sh F L := fun i hi => by
 obtain ⟨h1, h2, h3, h4⟩ := h i hi
 obtain ⟨q1, q2⟩ := hr _ h1 h2 h3
 exact ⟨h1, Nat.lt_of_lt_of_le h2 hg.size, q2, fun j hj => hg.cell (h4 j hj) (fun e => q1 e.symm)⟩
theorem IsLks.keptBy {w w' : World} {row : Option Nat} {a : Option Addr} {L : List (Int × Bool)} (h : IsLks w a L) (hg : w.grownBy w' row) (hr : ∀ ad, a = some ad → row ≠ some ad.block) : IsLks w' a L := fun i hi => by
 obtain ⟨b, off, ha, hlt, c0, c1⟩ := h i hi
 have hn : some b ≠ row := fun e => hr _ ha e.symm
 exact ⟨b, off, ha, Nat.lt_of_lt_of_le hlt hg.size, hg.cell c0 hn, hg.cell c1 hn⟩
theorem InnL.kept {C : Nat} {w w' : World} {v5 v6 v7 u5 u6 u7 : Value} {l : List TxA} {L : List (Option Addr × Nat × Nat)} {row : Option Nat} (h : InnL C w v5 v6 v7 l L) (hg : w.grownBy w' row) (hr : ∀ b, C ≤ b → b < w.heap.size → Far3 v5 v6 v7 b → row ≠ some b ∧ Far3 u5 u6 u7 b) : InnL C w' u5 u6 u7 l L := fun i hi => by
 obtain ⟨h1, h2, h3⟩ := h i hi
 refine ⟨h1, h2.keptBy hg (fun ad e => ?_), fun ad e => ?_⟩
 ·obtain ⟨q1, q2, q3⟩ := h3 ad e
  exact (hr _ q1 q2 q3).1
 ·obtain ⟨q1, q2, q3⟩ := h3 ad e
  exact ⟨q1, Nat.lt_of_lt_of_le q2 hg.size, (hr _ q1 q2 q3).2⟩
theorem own_kept {C : Nat} {w w' : World} {e size : Nat} {v : Value} {n : Nat} {xs : List Value} {row : Option Nat} (h : w.ownsRow C e size v n xs) (hg : w.grownBy w' row) (hr : ∀ j, v.ownBlock = some j → row ≠ some j) : w'.ownsRow C e size v n xs := by
 refine h.kept hg ?_
 cases ho : v.ownBlock with
 | none => exact .inl rfl
 | some j => exact .inr (fun q => hr j ho q.symm)
theorem Tri.nil (C : Nat) (w : World) (sh : Nat) (l : List TxA) : Tri C w (.slice none 0 0) (.slice none 0 0) (.slice none 0 0) sh l [] [] [] :=
 ⟨World.ownsRow_nil _ _ _ _, World.ownsRow_nil _ _ _ _, World.ownsRow_nil _ _ _ _, (fun j e => by cases e), (fun j e => by cases e), (fun j e => by cases e), fun i hi => absurd hi (Nat.not_lt_zero _), fun i hi => absurd hi (Nat.not_lt_zero _), fun i hi => absurd hi (Nat.not_lt_zero _)⟩
theorem Tri.on {C : Nat} {w w' : World} {v5 v6 v7 : Value} {sh : Nat} {l : List TxA} {L5 L6 : List (Nat × Nat)} {L7 : List (Option Addr × Nat × Nat)} {row : Option Nat} (T : Tri C w v5 v6 v7 sh l L5 L6 L7) (hg : w.grownBy w' row) (hr : ∀ j, row = some j → j < C) : Tri C w' v5 v6 v7 sh l L5 L6 L7 := by
 have far : ∀ b, C ≤ b → row ≠ some b := fun b hb e => by have := hr b e; omega
 exact ⟨own_kept T.o5 hg (fun j e => far j (T.o5.lt j e).1), own_kept T.o6 hg (fun j e => far j (T.o6.lt j e).1), own_kept T.o7 hg (fun j e => far j (T.o7.lt j e).1), T.d56, T.d57, T.d67, T.i5.kept hg (fun b h1 _ h3 => ⟨far b h1, h3⟩), T.i6.kept hg (fun b h1 _ h3 => ⟨far b h1, h3⟩), T.i7.kept hg (fun b h1 _ h3 => ⟨far b h1, h3⟩)⟩
theorem Tri.below {C : Nat} {w w' : World} {v5 v6 v7 : Value} {sh : Nat} {l : List TxA} {L5 L6 : List (Nat × Nat)} {L7 : List (Option Addr × Nat × Nat)} (T : Tri C w v5 v6 v7 sh l L5 L6 L7) (hb : Below w.heap.size w w') : Tri C w' v5 v6 v7 sh l L5 L6 L7 := T.on (grownBy_of_below hb none) (fun j e => by cases e)
theorem new_far {v v' : Value} {sz : Nat} {u : Value} (hv : v'.ownBlock = v.ownBlock ∨ v'.ownBlock = some sz) (h : ∀ j, v.ownBlock = some j → u.ownBlock ≠ some j) (hu : ∀ j, u.ownBlock = some j → j < sz) : ∀ j, v'.ownBlock = some j → u.ownBlock ≠ some j := fun j e q => by
 rcases hv with x | x
 ·rw [x] at e; exact h j e q
 ·rw [x] at e; injection e with e; have := hu j q; omega
theorem Tri.push5 {C : Nat} {w w' : World} {v5 v6 v7 v5' : Value} {sh : Nat} {l : List TxA} {L5 L6 : List (Nat × Nat)} {L7 : List (Option Addr × Nat × Nat)} (T : Tri C w v5 v6 v7 sh l L5 L6 L7) (g c : Nat)
  (ho : w'.ownsRow C 80 1 v5' (L5.length + 1) ((L5.map fun p => Value.slice (some ⟨p.1, 0, none⟩) sh p.2) ++ [.slice (some ⟨g, 0, none⟩) sh c])) (hg : w.grownBy w' v5.ownBlock) (hv : v5'.ownBlock = v5.ownBlock ∨ v5'.ownBlock = some w.heap.size)
  (h1 : C ≤ g) (h2 : g < w.heap.size) (h3 : Far3 v5 v6 v7 g) (h4 : ∀ j, j < sh → w.cell? ⟨g, j, none⟩ = some (.bool (ptB sh (gX l L5.length) j))) : Tri C w' v5' v6 v7 sh l (L5 ++ [(g, c)]) L6 L7 := by
 have hf : ∀ b, C ≤ b → b < w.heap.size → Far3 v5 v6 v7 b → v5.ownBlock ≠ some b ∧ Far3 v5' v6 v7 b := fun b _ q2 q3 => ⟨q3.1, far_to5 q3 q2 hv⟩
 refine ⟨by rw [List.length_append, List.map_append]; exact ho, own_kept T.o6 hg (fun j e q => T.d56 j q e), own_kept T.o7 hg (fun j e q => T.d57 j q e), new_far hv T.d56 (fun j e => (T.o6.lt j e).2), new_far hv T.d57 (fun j e => (T.o7.lt j e).2), T.d67, fun i hi => ?_, T.i6.kept hg hf, T.i7.kept hg hf⟩
 rcases get_app L5 (g, c) (0, 0) i hi with ⟨q1, q2⟩ | ⟨q1, q2⟩
 ·rw [q2]; exact (T.i5.kept hg hf) i q1
 ·rw [q2, q1]; exact ⟨h1, Nat.lt_of_lt_of_le h2 hg.size, (hf g h1 h2 h3).2, fun j hj => hg.cell (h4 j hj) (fun e => h3.1 e.symm)⟩
theorem Tri.push6 {C : Nat} {w w' : World} {v5 v6 v7 v6' : Value} {sh : Nat} {l : List TxA} {L5 L6 : List (Nat × Nat)} {L7 : List (Option Addr × Nat × Nat)} (T : Tri C w v5 v6 v7 sh l L5 L6 L7) (g c : Nat)
  (ho : w'.ownsRow C 80 1 v6' (L6.length + 1) ((L6.map fun p => Value.slice (some ⟨p.1, 0, none⟩) sh p.2) ++ [.slice (some ⟨g, 0, none⟩) sh c])) (hg : w.grownBy w' v6.ownBlock) (hv : v6'.ownBlock = v6.ownBlock ∨ v6'.ownBlock = some w.heap.size)
  (h1 : C ≤ g) (h2 : g < w.heap.size) (h3 : Far3 v5 v6 v7 g) (h4 : ∀ j, j < sh → w.cell? ⟨g, j, none⟩ = some (.bool (acB sh (gX l L6.length) j))) : Tri C w' v5 v6' v7 sh l L5 (L6 ++ [(g, c)]) L7 := by
 have hf : ∀ b, C ≤ b → b < w.heap.size → Far3 v5 v6 v7 b → v6.ownBlock ≠ some b ∧ Far3 v5 v6' v7 b := fun b _ q2 q3 => ⟨q3.2.1, far_to6 q3 q2 hv⟩
 refine ⟨own_kept T.o5 hg (fun j e q => T.d56 j e q), by rw [List.length_append, List.map_append]; exact ho, own_kept T.o7 hg (fun j e q => T.d67 j q e), fun j e q => (new_far hv (fun j e q => T.d56 j q e) (fun j e => (T.o5.lt j e).2)) j q e, T.d57, new_far hv T.d67 (fun j e => (T.o7.lt j e).2), T.i5.kept hg hf, fun i hi => ?_, T.i7.kept hg hf⟩
 rcases get_app L6 (g, c) (0, 0) i hi with ⟨q1, q2⟩ | ⟨q1, q2⟩
 ·rw [q2]; exact (T.i6.kept hg hf) i q1
 ·rw [q2, q1]; exact ⟨h1, Nat.lt_of_lt_of_le h2 hg.size, (hf g h1 h2 h3).2, fun j hj => hg.cell (h4 j hj) (fun e => h3.2.1 e.symm)⟩
theorem Tri.push7 {C : Nat} {w w' : World} {v5 v6 v7 v7' : Value} {sh : Nat} {l : List TxA} {L5 L6 : List (Nat × Nat)} {L7 : List (Option Addr × Nat × Nat)} (T : Tri C w v5 v6 v7 sh l L5 L6 L7) (a : Option Addr) (c : Nat)
  (ho : w'.ownsRow C 131 1 v7' (L7.length + 1) ((L7.map fun p => Value.slice p.1 p.2.1 p.2.2) ++ [.slice a (lkX (gX l L7.length)).length c])) (hg : w.grownBy w' v7.ownBlock) (hv : v7'.ownBlock = v7.ownBlock ∨ v7'.ownBlock = some w.heap.size)
  (h1 : IsLks w a (lkX (gX l L7.length))) (h2 : ∀ ad, a = some ad → C ≤ ad.block ∧ ad.block < w.heap.size ∧ Far3 v5 v6 v7 ad.block) : Tri C w' v5 v6 v7' sh l L5 L6 (L7 ++ [(a, (lkX (gX l L7.length)).length, c)]) := by
 have hf : ∀ b, C ≤ b → b < w.heap.size → Far3 v5 v6 v7 b → v7.ownBlock ≠ some b ∧ Far3 v5 v6 v7' b := fun b _ q2 q3 => ⟨q3.2.2, far_to7 q3 q2 hv⟩
 refine ⟨own_kept T.o5 hg (fun j e q => T.d57 j e q), own_kept T.o6 hg (fun j e q => T.d67 j e q), by rw [List.length_append, List.map_append]; exact ho, T.d56, fun j e q => (new_far hv (fun j e q => T.d57 j q e) (fun j e => (T.o5.lt j e).2)) j q e, fun j e q => (new_far hv (fun j e q => T.d67 j q e) (fun j e => (T.o6.lt j e).2)) j q e, T.i5.kept hg hf, T.i6.kept hg hf, fun i hi => ?_⟩
 rcases get_app L7 (a, (lkX (gX l L7.length)).length, c) (none, 0, 0) i hi with ⟨q1, q2⟩ | ⟨q1, q2⟩
 ·rw [q2]; exact (T.i7.kept hg hf) i q1
 ·rw [q2, q1]
  refine ⟨rfl, h1.keptBy hg (fun ad e => (hf _ (h2 ad e).1 (h2 ad e).2.1 (h2 ad e).2.2).1), fun ad e => ?_⟩
  obtain ⟨p1, p2, p3⟩ := h2 ad e
  exact ⟨p1, Nat.lt_of_lt_of_le p2 hg.size, (hf _ p1 p2 p3).2⟩
theorem Tri.br5 {C : Nat} {w : World} {v5 v6 v7 : Value} {sh : Nat} {l : List TxA} {L5 L6 : List (Nat × Nat)} {L7 : List (Option Addr × Nat × Nat)} (T : Tri C w v5 v6 v7 sh l L5 L6 L7) : ∃ a cap, v5 = .slice a L5.length cap ∧ IsBR C w a L5.length sh (fun n k => ptB sh (gX l n) k) := by
 rcases T.o5.2 with ⟨h, h0⟩ | ⟨g, cap, cur, h, hb, hg, _⟩
 ·exact ⟨none, 0, by rw [h, h0], fun i hi => by omega⟩
 ·subst h
  refine ⟨some ⟨g, 0, none⟩, cap, rfl, fun i hi => ?_⟩
  obtain ⟨q1, q2, q3, q4⟩ := T.i5 i hi
  have hc := T.o5.cells (g := g) rfl i (.slice (some ⟨(L5.getD i (0, 0)).1, 0, none⟩) sh (L5.getD i (0, 0)).2) (by simp [List.getD, hi])
  rw [add_none, Nat.zero_add] at hc
  exact ⟨g, 0, (L5.getD i (0, 0)).1, 0, (L5.getD i (0, 0)).2, rfl, ⟨hb, (Array.getElem?_eq_some_iff.1 hg).1⟩, ⟨q1, q2⟩, by rw [Nat.zero_add]; exact hc, fun k hk => by rw [Nat.zero_add]; exact q4 k hk⟩
theorem Tri.br6 {C : Nat} {w : World} {v5 v6 v7 : Value} {sh : Nat} {l : List TxA} {L5 L6 : List (Nat × Nat)} {L7 : List (Option Addr × Nat × Nat)} (T : Tri C w v5 v6 v7 sh l L5 L6 L7) : ∃ a cap, v6 = .slice a L6.length cap ∧ IsBR C w a L6.length sh (fun n k => acB sh (gX l n) k) := by
 rcases T.o6.2 with ⟨h, h0⟩ | ⟨g, cap, cur, h, hb, hg, _⟩
 ·exact ⟨none, 0, by rw [h, h0], fun i hi => by omega⟩
 ·subst h
  refine ⟨some ⟨g, 0, none⟩, cap, rfl, fun i hi => ?_⟩
  obtain ⟨q1, q2, q3, q4⟩ := T.i6 i hi
  have hc := T.o6.cells (g := g) rfl i (.slice (some ⟨(L6.getD i (0, 0)).1, 0, none⟩) sh (L6.getD i (0, 0)).2) (by simp [List.getD, hi])
  rw [add_none, Nat.zero_add] at hc
  exact ⟨g, 0, (L6.getD i (0, 0)).1, 0, (L6.getD i (0, 0)).2, rfl, ⟨hb, (Array.getElem?_eq_some_iff.1 hg).1⟩, ⟨q1, q2⟩, by rw [Nat.zero_add]; exact hc, fun k hk => by rw [Nat.zero_add]; exact q4 k hk⟩
theorem Tri.lr7 {C : Nat} {w : World} {v5 v6 v7 : Value} {sh : Nat} {l : List TxA} {L5 L6 : List (Nat × Nat)} {L7 : List (Option Addr × Nat × Nat)} (T : Tri C w v5 v6 v7 sh l L5 L6 L7) (hn : L7.length = l.length) : ∃ a cap, v7 = .slice a L7.length cap ∧ IsLR C w a l := by
 rcases T.o7.2 with ⟨h, h0⟩ | ⟨g, cap, cur, h, hb, hg, _⟩
 ·exact ⟨none, 0, by rw [h, h0], fun i hi => by omega⟩
 ·subst h
  refine ⟨some ⟨g, 0, none⟩, cap, rfl, fun i hi => ?_⟩
  have hi7 : i < L7.length := by omega
  obtain ⟨q1, q2, q3⟩ := T.i7 i hi7
  have hc := T.o7.cells (g := g) rfl i (.slice (L7.getD i (none, 0, 0)).1 (L7.getD i (none, 0, 0)).2.1 (L7.getD i (none, 0, 0)).2.2) (by simp [List.getD, hi7])
  rw [add_none, Nat.zero_add, q1] at hc
  exact ⟨g, 0, (L7.getD i (none, 0, 0)).1, (L7.getD i (none, 0, 0)).2.2, rfl, ⟨hb, (Array.getElem?_eq_some_iff.1 hg).1⟩, by rw [Nat.zero_add]; exact hc, q2, fun ad e => (q3 ad e).1⟩
theorem step_append_sl {w : World} {ops : Array Oper} {o : Oper} {a : Act} {K : Act → World → Prop} {Q : Exit → Act → World → Prop} {E : Prop} (hgd : o.guard = none) (s x : Operand) (t e : TypeId)
  (ho : o.op = .call { callee := .builtin .append, args := #[s, x], argTypes := #[t, t] }) (i : TypeInfo) (z : Value) (ht : Tryz.prog.underlying t = some (.slice e)) (hi : Tryz.prog.info? e = some i) (hz : i.zero = some z) (h1 : i.size = 1) (h24 : i.bytes = 24) (hzs : z.cells.size = 1)
  (C : Nat) (v : Value) (n : Nat) (xs : List Value) (hs : a.eval s = v) (hown : w.ownsRow C e 1 v n xs)
  (ad : Addr) (c : Nat) (u : Value) (hx : a.eval x = .slice (some ad) 1 c) (hnews : w.cell? ad = some u) (hu : u.oneCell' = true)
  (hsm : n ≤ 100) (hbase : C ≤ w.heap.size)
  (h : ∀ v' w', w'.ownsRow C e 1 v' (n + 1) (xs ++ [u]) → w.grownBy w' v.ownBlock → (v'.ownBlock = v.ownBlock ∨ v'.ownBlock = some w.heap.size) → K (a.put o.dst v') w') :
  if Region.wanted o (yielded ops a.tmps) = true then Oper.wp Tryz.prog o a w K Q else E := by
 have hw : Region.wanted o (yielded ops a.tmps) = true := by simp [Region.wanted, hgd]
 rw [if_pos hw]
 obtain ⟨v', w', hrun, h2, h3, _, h5⟩ := run_append_own_at (P := Tryz.prog) w C t o.type e i z 1 24 ht hi hz h1 h24 hzs (by decide) v n xs hown ad 1 c [u] rfl (fun j q hj => by
  match j, hj with
  | 0, hj => simp at hj; subst hj; simpa [Addr.add] using hnews
  | j + 1, hj => simp at hj) (fun q hq => by simp at hq; subst hq; exact hu) (by unfold maxLen; omega) (by omega) hbase
 unfold Oper.wp execOp
 simp only [ho, resolve, invoke, builtin, Sem.run_bind, Sem.run_pure, Result.andThen_ok, List.map_toArray, List.map_cons, List.map_nil, hs, hx, hrun]
 exact h v' w' h2 h3 h5
theorem Tryz.info80 : (Tryz.prog.info? 80).map (fun i => (i.zero, i.size, i.bytes)) = some (some (.slice none 0 0), 1, 24) := by kernel_rfl
theorem Tryz.info131 : (Tryz.prog.info? 131).map (fun i => (i.zero, i.size, i.bytes)) = some (some (.slice none 0 0), 1, 24) := by kernel_rfl
theorem gotBools_ok (a : Option Addr) (k c : Nat) (w : World) : Calls Tryz.prog 69 #[.slice a k c, .int .i64 0] w fun e' w' => e' = .returned (.slice a k c) ∧ w' = w.alloc (.cells #[.int .i64 0] 30) := by
 go_enter Tryz.func69, Tryz.ntmps69
 go_wp2_with fail
 refine (leave_zero [0] _ 1 _ (by simp) rfl (errs1 _ _ _ rfl)).mono ?_
 rintro e w' ⟨rfl, rfl⟩
 go_wp2
 go_ret
 exact ⟨rfl, rfl⟩
set_option maxHeartbeats 1000000 in
theorem part_own (la : Option Addr) (lc : Nat) (l : List TxA) (sh k : Nat) (w : World) (hl : IsTxs w la l) (he : pnE sh l k = 0) :
  Calls Tryz.prog 70 #[.agg #[.int .i64 sh, .slice la l.length lc], .int .i64 k] w fun e w' => ∃ g c, e = .returned (.tuple #[.slice (some ⟨g, 0, none⟩) sh c, .int .i64 0]) ∧ w'.ownsRow w.heap.size 4 1 (.slice (some ⟨g, 0, none⟩) sh c) sh ((marks sh (keysIn (locksAt l k))).map Value.bool) ∧ Below w.heap.size w w' := by
 have hmf : ∀ (fn : Fn) (first cap : Array Value) (w : World), (Instr.makeFunc fn first cap).run Tryz.prog w = .ok (.func fn first cap) w := fun _ _ _ _ => rfl
 have hg : Below w.heap.size w (((w.alloc (.cells #[.int .i64 sh, .slice la l.length lc] 24)).alloc (.cells #[.int .i64 k] 3)).alloc (.cells #[.int .i64 0] 30)) := grow_alloc (grow_alloc (grow_alloc (Below.refl _ _) _) _) _
 have h0 : (((w.alloc (.cells #[.int .i64 sh, .slice la l.length lc] 24)).alloc (.cells #[.int .i64 k] 3)).alloc (.cells #[.int .i64 0] 30)).cell? ⟨w.heap.size, 0, none⟩ = some (.int .i64 sh) := ext_cell (grow_alloc (Below.refl _ _) _) (ext_cell (grow_alloc (Below.refl _ _) _) (at_new w _ 24 _ 0 _ rfl rfl))
 have h1 : (((w.alloc (.cells #[.int .i64 sh, .slice la l.length lc] 24)).alloc (.cells #[.int .i64 k] 3)).alloc (.cells #[.int .i64 0] 30)).cell? ⟨w.heap.size, 1, none⟩ = some (.slice la l.length lc) := ext_cell (grow_alloc (Below.refl _ _) _) (ext_cell (grow_alloc (Below.refl _ _) _) (at_new w _ 24 _ 1 _ rfl rfl))
 have h2 : (((w.alloc (.cells #[.int .i64 sh, .slice la l.length lc] 24)).alloc (.cells #[.int .i64 k] 3)).alloc (.cells #[.int .i64 0] 30)).cell? ⟨w.heap.size + 1, 0, none⟩ = some (.int .i64 k) := ext_cell (grow_alloc (Below.refl _ _) _) (at_new _ _ 3 _ 0 _ (by simp) rfl)
 have H : Hid (Calls Tryz.prog 93 #[.func (.func 94) #[] #[.pointer (some ⟨w.heap.size, 0, none⟩), .pointer (some ⟨w.heap.size + 1, 0, none⟩)]] ((w.alloc (.cells #[.int .i64 sh, .slice la l.length lc] 24)).alloc (.cells #[.int .i64 k] 3)) fun e w' => ∃ g c, e = .returned (.tuple #[.slice (some ⟨g, 0, none⟩) sh c, .int .i64 0]) ∧ w'.ownsRow ((w.alloc (.cells #[.int .i64 sh, .slice la l.length lc] 24)).alloc (.cells #[.int .i64 k] 3)).heap.size 4 1 (.slice (some ⟨g, 0, none⟩) sh c) sh ((marks sh (keysIn (locksAt l k))).map Value.bool) ∧ Below ((w.alloc (.cells #[.int .i64 sh, .slice la l.length lc] 24)).alloc (.cells #[.int .i64 k] 3)).heap.size ((w.alloc (.cells #[.int .i64 sh, .slice la l.length lc] 24)).alloc (.cells #[.int .i64 k] 3)) w') := caught_part_ret _ sh _ _ (part1_ok la lc l sh k _ _ _ h0 h1 h2 (hl.below hg) he)
 have hU : Hid (Below w.heap.size w ((w.alloc (.cells #[.int .i64 sh, .slice la l.length lc] 24)).alloc (.cells #[.int .i64 k] 3))) := grow_alloc (grow_alloc (Below.refl _ _) _) _
 clear h0 h1 h2 hg
 go_enter Tryz.func70, Tryz.ntmps70
 go_wp2_with fail
 refine H.out.mono ?_
 clear H
 rintro e w1 ⟨g, c, rfl, ho, hb⟩
 have hB : Hid (Below w.heap.size w w1) := grow_trans hU.out hb
 have hO : Hid (w1.ownsRow w.heap.size 4 1 (.slice (some ⟨g, 0, none⟩) sh c) sh ((marks sh (keysIn (locksAt l k))).map Value.bool)) := own_low ho hU.out.size
 clear hb ho
 go_wp2
 go_ret2
 exact ⟨g, c, rfl, hO.out, hB.out⟩
set_option maxHeartbeats 1000000 in
theorem active_own (la : Option Addr) (lc : Nat) (l : List TxA) (sh k : Nat) (w : World) (hl : IsTxs w la l) (he : pnE sh l k = 0) :
  Calls Tryz.prog 71 #[.agg #[.int .i64 sh, .slice la l.length lc], .int .i64 k] w fun e w' => ∃ g c, e = .returned (.tuple #[.slice (some ⟨g, 0, none⟩) sh c, .int .i64 0]) ∧ w'.ownsRow w.heap.size 4 1 (.slice (some ⟨g, 0, none⟩) sh c) sh ((marks sh (setsIn (locksAt l k))).map Value.bool) ∧ Below w.heap.size w w' := by
 have hmf : ∀ (fn : Fn) (first cap : Array Value) (w : World), (Instr.makeFunc fn first cap).run Tryz.prog w = .ok (.func fn first cap) w := fun _ _ _ _ => rfl
 have hg : Below w.heap.size w (((w.alloc (.cells #[.int .i64 sh, .slice la l.length lc] 24)).alloc (.cells #[.int .i64 k] 3)).alloc (.cells #[.int .i64 0] 30)) := grow_alloc (grow_alloc (grow_alloc (Below.refl _ _) _) _) _
 have h0 : (((w.alloc (.cells #[.int .i64 sh, .slice la l.length lc] 24)).alloc (.cells #[.int .i64 k] 3)).alloc (.cells #[.int .i64 0] 30)).cell? ⟨w.heap.size, 0, none⟩ = some (.int .i64 sh) := ext_cell (grow_alloc (Below.refl _ _) _) (ext_cell (grow_alloc (Below.refl _ _) _) (at_new w _ 24 _ 0 _ rfl rfl))
 have h1 : (((w.alloc (.cells #[.int .i64 sh, .slice la l.length lc] 24)).alloc (.cells #[.int .i64 k] 3)).alloc (.cells #[.int .i64 0] 30)).cell? ⟨w.heap.size, 1, none⟩ = some (.slice la l.length lc) := ext_cell (grow_alloc (Below.refl _ _) _) (ext_cell (grow_alloc (Below.refl _ _) _) (at_new w _ 24 _ 1 _ rfl rfl))
 have h2 : (((w.alloc (.cells #[.int .i64 sh, .slice la l.length lc] 24)).alloc (.cells #[.int .i64 k] 3)).alloc (.cells #[.int .i64 0] 30)).cell? ⟨w.heap.size + 1, 0, none⟩ = some (.int .i64 k) := ext_cell (grow_alloc (Below.refl _ _) _) (at_new _ _ 3 _ 0 _ (by simp) rfl)
 have H : Hid (Calls Tryz.prog 93 #[.func (.func 97) #[] #[.pointer (some ⟨w.heap.size, 0, none⟩), .pointer (some ⟨w.heap.size + 1, 0, none⟩)]] ((w.alloc (.cells #[.int .i64 sh, .slice la l.length lc] 24)).alloc (.cells #[.int .i64 k] 3)) fun e w' => ∃ g c, e = .returned (.tuple #[.slice (some ⟨g, 0, none⟩) sh c, .int .i64 0]) ∧ w'.ownsRow ((w.alloc (.cells #[.int .i64 sh, .slice la l.length lc] 24)).alloc (.cells #[.int .i64 k] 3)).heap.size 4 1 (.slice (some ⟨g, 0, none⟩) sh c) sh ((marks sh (setsIn (locksAt l k))).map Value.bool) ∧ Below ((w.alloc (.cells #[.int .i64 sh, .slice la l.length lc] 24)).alloc (.cells #[.int .i64 k] 3)).heap.size ((w.alloc (.cells #[.int .i64 sh, .slice la l.length lc] 24)).alloc (.cells #[.int .i64 k] 3)) w') := caught_active_ret _ sh _ _ (active1_ok la lc l sh k _ _ _ h0 h1 h2 (hl.below hg) he)
 have hU : Hid (Below w.heap.size w ((w.alloc (.cells #[.int .i64 sh, .slice la l.length lc] 24)).alloc (.cells #[.int .i64 k] 3))) := grow_alloc (grow_alloc (Below.refl _ _) _) _
 clear h0 h1 h2 hg
 go_enter Tryz.func71, Tryz.ntmps71
 go_wp2_with fail
 refine H.out.mono ?_
 clear H
 rintro e w1 ⟨g, c, rfl, ho, hb⟩
 have hB : Hid (Below w.heap.size w w1) := grow_trans hU.out hb
 have hO : Hid (w1.ownsRow w.heap.size 4 1 (.slice (some ⟨g, 0, none⟩) sh c) sh ((marks sh (setsIn (locksAt l k))).map Value.bool)) := own_low ho hU.out.size
 clear hb ho
 go_wp2
 go_ret2
 exact ⟨g, c, rfl, hO.out, hB.out⟩
end Go.Proofs.YtcgpkonfneofdaaGreat
namespace Go.Proofs.YtcgpkonfneofdaaGreat
open Go.RowKit
structure NewRow (lo : Nat) (w : World) (a : Option Addr) (c g n : Nat) (G : Nat → Value) : Prop where
 e : 0 < n → a = some ⟨g, 0, none⟩ ∧ lo ≤ g ∧ g < w.heap.size ∧ (∀ k, k < n → w.cell? ⟨g, k, none⟩ = some (G k)) ∧ ∀ k, w.frozen? ⟨g, k, none⟩ = false
 z : a = none → c = 0
 lo : ∀ ad, a = some ad → lo ≤ ad.block
theorem NewRow.below {lo : Nat} {w w' : World} {a : Option Addr} {c g n : Nat} {G : Nat → Value} (h : NewRow lo w a c g n G) (hb : Below w.heap.size w w') : NewRow lo w' a c g n G :=
 ⟨fun hn => by
  obtain ⟨h1, h2, h3, h4, h5⟩ := h.e hn
  exact ⟨h1, h2, Nat.lt_of_lt_of_le h3 hb.size, fun k hk => ext_cell hb (h4 k hk), fun k => (hb.frozen (p := ⟨g, k, none⟩) h3).trans (h5 k)⟩, h.z, h.lo⟩
theorem new_row {w : World} {C e : Nat} {v : Value} {n : Nat} {G : Nat → Value} (h : w.ownsRow C e 1 v n ((List.range n).map G)) : ∃ a' c' g, v = .slice a' n c' ∧ NewRow C w a' c' g n G := by
 rcases h.2 with ⟨rfl, h0⟩ | ⟨g, cap, cur, rfl, hb, hg, _⟩
 ·exact ⟨none, 0, 0, by rw [h0], ⟨(fun hn => by omega), fun _ => rfl, (fun ad e => by cases e)⟩⟩
 ·refine ⟨some ⟨g, 0, none⟩, cap, g, rfl, ⟨fun hn => ⟨rfl, hb, (Array.getElem?_eq_some_iff.1 hg).1, fun k hk => ?_, fun k => h.frozenAt k⟩, (fun e => by cases e), (fun ad e => by injection e with e; subst e; exact hb)⟩⟩
  have hc := h.cells (g := g) rfl k (G k) (by simp [hk])
  rw [add_none, Nat.zero_add] at hc
  exact hc
theorem news_one (w : World) (v : Value) (ty s : Nat) (hs : s = w.heap.size) : ∀ j u, [v][j]? = some u → (w.alloc (.cells #[v] ty)).cell? ((⟨s, 0, none⟩ : Addr).add j) = some u := by
 subst hs
 intro j u hj
 match j, hj with
 | 0, hj => simp at hj; subst hj; simp [Addr.add]
theorem one_sl (a : Option Addr) (n c : Nat) : ∀ u ∈ [Value.slice a n c], u.oneCell' = true := by
 intro u hu
 simp at hu
 subst hu; rfl
def IsGR (w : World) (a : Option Addr) (n : Nat) (len : Nat → Nat) (G : Nat → Nat → Value) : Prop :=
 ∀ i, i < n → ∃ b off a' c', a = some ⟨b, off, none⟩ ∧ b < w.heap.size ∧ w.cell? ⟨b, off + i, none⟩ = some (.slice a' (len i) c') ∧ ∀ k, k < len i → ∃ b' off', a' = some ⟨b', off', none⟩ ∧ b' < w.heap.size ∧ w.cell? ⟨b', off' + k, none⟩ = some (G i k)
structure OR (lo hi : Nat) (w : World) (a : Option Addr) (n : Nat) (len : Nat → Nat) (G : Nat → Nat → Value) (g : Nat) (B : Nat → Nat) : Prop where
 ad : 0 < n → a = some ⟨g, 0, none⟩ ∧ lo ≤ g ∧ g < hi
 o : ∀ i, i < n → ∃ a' c, w.cell? ⟨g, i, none⟩ = some (.slice a' (len i) c) ∧ (0 < len i → a' = some ⟨B i, 0, none⟩) ∧ (a' = none → c = 0) ∧ ∀ ad, a' = some ad → lo ≤ ad.block
 b : ∀ i, i < n → 0 < len i → lo ≤ B i ∧ B i < hi ∧ B i ≠ g
 d : ∀ i j, i < n → j < n → i ≠ j → 0 < len i → 0 < len j → B i ≠ B j
 c : ∀ i k, i < n → k < len i → w.cell? ⟨B i, k, none⟩ = some (G i k)
 f : ∀ i k, i < n → 0 < len i → w.frozen? ⟨B i, k, none⟩ = false
structure CR (T C : Nat) (w : World) (v : Value) (k : Nat) (len : Nat → Nat) (G : Nat → Nat → Value) (L : List (Option Addr × Nat × Nat)) (B : Nat → Nat) : Prop where
 n : L.length = k
 o : w.ownsRow C T 1 v L.length (L.map fun p => Value.slice p.1 p.2.1 p.2.2)
 e : ∀ i, i < k → (L.getD i (none, 0, 0)).2.1 = len i ∧ (0 < len i → (L.getD i (none, 0, 0)).1 = some ⟨B i, 0, none⟩) ∧ ((L.getD i (none, 0, 0)).1 = none → (L.getD i (none, 0, 0)).2.2 = 0) ∧ ∀ ad, (L.getD i (none, 0, 0)).1 = some ad → C ≤ ad.block
 b : ∀ i, i < k → 0 < len i → C ≤ B i ∧ B i < w.heap.size ∧ v.ownBlock ≠ some (B i)
 d : ∀ i j, i < k → j < k → i ≠ j → 0 < len i → 0 < len j → B i ≠ B j
 c : ∀ i m, i < k → m < len i → w.cell? ⟨B i, m, none⟩ = some (G i m)
 f : ∀ i m, i < k → 0 < len i → w.frozen? ⟨B i, m, none⟩ = false
theorem CR.nil (T C : Nat) (w : World) (len : Nat → Nat) (G : Nat → Nat → Value) (B : Nat → Nat) : CR T C w (.slice none 0 0) 0 len G [] B :=
 ⟨rfl, World.ownsRow_nil _ _ _ _, fun _ hi => absurd hi (Nat.not_lt_zero _), fun _ hi => absurd hi (Nat.not_lt_zero _), fun _ _ hi => absurd hi (Nat.not_lt_zero _), fun _ _ hi => absurd hi (Nat.not_lt_zero _), fun _ _ hi => absurd hi (Nat.not_lt_zero _)⟩
theorem CR.below {T C : Nat} {w w' : World} {v : Value} {k : Nat} {len : Nat → Nat} {G : Nat → Nat → Value} {L : List (Option Addr × Nat × Nat)} {B : Nat → Nat} (h : CR T C w v k len G L B) (hb : Below w.heap.size w w') : CR T C w' v k len G L B :=
 ⟨h.n, owns_below h.o hb, h.e, fun i hi hl => ⟨(h.b i hi hl).1, Nat.lt_of_lt_of_le (h.b i hi hl).2.1 hb.size, (h.b i hi hl).2.2⟩, h.d, fun i m hi hm => ext_cell hb (h.c i m hi hm), fun i m hi hl => (hb.frozen (p := ⟨B i, m, none⟩) (h.b i hi hl).2.1).trans (h.f i m hi hl)⟩
theorem CR.push {T C sz : Nat} {w w' : World} {v v' : Value} {k : Nat} {len : Nat → Nat} {G : Nat → Nat → Value} {L : List (Option Addr × Nat × Nat)} {B : Nat → Nat} {a : Option Addr} {c g : Nat} (h : CR T C w v k len G L B) (hk : L.length = k)
  (ho : w'.ownsRow C T 1 v' (L.length + 1) ((L.map fun p => Value.slice p.1 p.2.1 p.2.2) ++ [.slice a (len k) c])) (hg : w.grownBy w' v.ownBlock) (hv : v'.ownBlock = v.ownBlock ∨ v'.ownBlock = some w.heap.size)
  (hn : NewRow sz w a c g (len k) (G k)) (hC : C ≤ sz) (hvl : ∀ j, v.ownBlock = some j → j < sz) (hBl : ∀ i, i < k → 0 < len i → B i < sz) (B' : Nat → Nat) (hB1 : B' k = g) (hB2 : ∀ i, i ≠ k → B' i = B i) : CR T C w' v' (k + 1) len G (L ++ [(a, len k, c)]) B' := by
 have far : ∀ b, v.ownBlock ≠ some b → b < w.heap.size → v'.ownBlock ≠ some b := fun b h1 h2 e => by
  rcases hv with x | x
  ·rw [x] at e; exact h1 e
  ·rw [x] at e; injection e with e; omega
 have gfar : 0 < len k → v.ownBlock ≠ some g := fun hl e => by have := hvl g e; have := (hn.e hl).2.1; omega
 refine ⟨by rw [List.length_append, List.length_singleton, hk], by rw [List.length_append, List.map_append]; exact ho, fun i hi => ?_, fun i hi hl => ?_, fun i j hi hj hne hli hlj => ?_, fun i m hi hm => ?_, fun i m hi hl => ?_⟩
 ·rcases get_app L (a, len k, c) (none, 0, 0) i (by rw [List.length_append, List.length_singleton]; omega) with ⟨q1, q2⟩ | ⟨q1, q2⟩
  ·rw [q2, hB2 i (by omega)]; exact h.e i (by omega)
  ·rw [q2]
   have e : i = k := by omega
   subst e
   rw [hB1]
   exact ⟨rfl, fun hl => (hn.e hl).1, hn.z, fun ad e => Nat.le_trans hC (hn.lo ad e)⟩
 ·by_cases e : i = k
  ·subst e
   rw [hB1]
   obtain ⟨_, n2, n3, _, _⟩ := hn.e hl
   exact ⟨by omega, Nat.lt_of_lt_of_le n3 hg.size, far g (gfar hl) n3⟩
  ·rw [hB2 i e]
   obtain ⟨b1, b2, b3⟩ := h.b i (by omega) hl
   exact ⟨b1, Nat.lt_of_lt_of_le b2 hg.size, far _ b3 b2⟩
 ·by_cases e : i = k
  ·subst e
   have e2 : ¬ j = i := fun q => hne q.symm
   rw [hB1, hB2 j e2]
   have := hBl j (by omega) hlj
   have := (hn.e hli).2.1
   omega
  ·by_cases e2 : j = k
   ·subst e2
    rw [hB1, hB2 i e]
    have := hBl i (by omega) hli
    have := (hn.e hlj).2.1
    omega
   ·rw [hB2 i e, hB2 j e2]
    exact h.d i j (by omega) (by omega) hne hli hlj
 ·by_cases e : i = k
  ·subst e
   rw [hB1]
   obtain ⟨_, n2, n3, n4, _⟩ := hn.e (by omega)
   exact hg.cell (n4 m hm) (fun q => gfar (by omega) q.symm)
  ·rw [hB2 i e]
   exact hg.cell (h.c i m (by omega) hm) (fun q => (h.b i (by omega) (by omega)).2.2 q.symm)
 ·by_cases e : i = k
  ·subst e
   rw [hB1]
   obtain ⟨_, n2, n3, _, n5⟩ := hn.e hl
   exact (World.frozen?_of_block (a := ⟨g, m, none⟩) (hg.block g n3 (fun q => gfar hl q.symm))).trans (n5 m)
  ·rw [hB2 i e]
   obtain ⟨b1, b2, b3⟩ := h.b i (by omega) hl
   exact (World.frozen?_of_block (a := ⟨B i, m, none⟩) (hg.block (B i) b2 (fun q => b3 q.symm))).trans (h.f i m (by omega) hl)
theorem CR.fin {T C : Nat} {w : World} {v : Value} {k : Nat} {len : Nat → Nat} {G : Nat → Nat → Value} {L : List (Option Addr × Nat × Nat)} {B : Nat → Nat} (h : CR T C w v k len G L B) : ∃ a c g, v = .slice a k c ∧ OR C w.heap.size w a k len G g B := by
  have hk := h.n
  rcases h.o.2 with ⟨hv, h0⟩ | ⟨g, cap, cur, hv, hb, hg, _⟩
  · have e : k = 0 := by omega
    subst e
    exact ⟨none, 0, 0, hv, ⟨fun h => absurd h (Nat.lt_irrefl _), fun _ hi => absurd hi (Nat.not_lt_zero _), fun _ hi => absurd hi (Nat.not_lt_zero _), fun _ _ hi => absurd hi (Nat.not_lt_zero _), fun _ _ hi => absurd hi (Nat.not_lt_zero _), fun _ _ hi => absurd hi (Nat.not_lt_zero _)⟩⟩
  · subst hv
    refine ⟨some ⟨g, 0, none⟩, cap, g, by rw [hk], ⟨fun _ => ⟨rfl, hb, (Array.getElem?_eq_some_iff.1 hg).1⟩, fun i hi => ?_, fun i hi hl => ?_, h.d, h.c, h.f⟩⟩
    · obtain ⟨e1, e2, e3, e4⟩ := h.e i hi
      have hc := h.o.cells (g := g) rfl i (.slice (L.getD i (none, 0, 0)).1 (L.getD i (none, 0, 0)).2.1 (L.getD i (none, 0, 0)).2.2) (by have : i < L.length := by omega
                                                                                                                                         simp [List.getD, this])
      rw [add_none, Nat.zero_add, e1] at hc
      exact ⟨_, _, hc, e2, e3, e4⟩
    · obtain ⟨b1, b2, b3⟩ := h.b i hi hl
      exact ⟨b1, b2, fun e => b3 (by rw [e]; rfl)⟩
set_option maxHeartbeats 1000000 in
theorem cloneB_new (n : Nat) (G : Nat → Value) (hG : ∀ k, k < n → ∃ u, G k = .bool u) (a : Option Addr) (zc : Nat) (w : World) (h8 : n ≤ 8) (hz : ∀ k, k < n → ∃ b off, a = some ⟨b, off, none⟩ ∧ b < w.heap.size ∧ w.cell? ⟨b, off + k, none⟩ = some (G k)) :
  Calls Tryz.prog 129 #[.slice a n zc] w fun e w' => ∃ a' c' g, e = .returned (.slice a' n c') ∧ NewRow w.heap.size w' a' c' g n G ∧ Below w.heap.size w w' := by
 have q24 : ∀ (w : World) (a : Option Addr) (n c n' c' : Nat), (binOp .eql 80 (.slice a n c) (.slice none n' c')).run Tryz.prog w = .ok (.bool a.isNone) w := fun w a n c n' c' => Lib.run_eql_slice_nil w _ _ a n c n' c' Tryz.underlying80
 obtain ⟨i0, hi, hz0, hz1, hz2⟩ := info_parts Tryz.info4
 cases a with
 | none =>
  have h0 : n = 0 := by
   by_cases c : n = 0
   ·exact c
   ·obtain ⟨_, _, h, _⟩ := hz 0 (by omega); cases h
  subst h0
  clear hz h8 hG
  go_enter Tryz.func129, Tryz.ntmps129
  go_wp2
  go_ret
  exact ⟨none, 0, 0, rfl, ⟨fun h => absurd h (Nat.lt_irrefl _), fun _ => rfl, (fun ad e => by cases e)⟩, Below.refl _ _⟩
 | some ad =>
  have hnews : ∀ (o : Obj) j u, ((List.range n).map G)[j]? = some u → (w.alloc o).cell? (ad.add j) = some u := by
   intro o j u hj
   have hlt : j < n := by
    have := (List.getElem?_eq_some_iff.1 hj).1
    simpa using this
   obtain ⟨b, off, ha, hb, hc⟩ := hz j hlt
   injection ha with ha
   subst ha
   rw [add_none, World.cell?_alloc_lt _ _ _ hb, hc]
   simp [hlt] at hj
   rw [hj]
  have hone : ∀ u ∈ (List.range n).map G, u.oneCell' = true := by
   intro u hu
   obtain ⟨k, hk, rfl⟩ := List.mem_map.1 hu
   obtain ⟨x, e⟩ := hG k (List.mem_range.1 hk)
   rw [e]; rfl
  clear hz
  go_enter Tryz.func129, Tryz.ntmps129
  go_wp2_with (first
   | (at_builtin; refine wpList_append_own _ rfl _ _ 80 rfl w.heap.size 4 i0 (.bool false) 1 1 Tryz.underlying80 hi hz0 hz1 hz2 rfl (by decide) _ 0 [] rfl (World.ownsRow_lit w #[] 0 (Nat.le_refl _) (by decide) rfl) ad n zc ((List.range n).map G) rfl (by simp) (hnews _) hone (by unfold maxLen; omega) (by omega) (by simp) ?_; intro v' w1 hown' hgrow _)
   | go_in)
  have RB : Below w.heap.size w w1 := (grow_alloc (Below.refl _ _) _).grown hgrow (by simp) (fun j hj => by have hj' : some w.heap.size = some j := hj; injection hj' with hj'; exact Nat.le_of_eq hj')
  simp only [Nat.zero_add, List.nil_append] at hown'
  clear hgrow hnews hone
  have HR := new_row hown'
  obtain ⟨a', c', g, rfl, hn⟩ := HR
  go_wp2
  go_ret
  exact ⟨a', c', g, rfl, hn, RB⟩
set_option maxHeartbeats 1000000 in
theorem cloneI_new (n : Nat) (G : Nat → Value) (hG : ∀ k, k < n → ∃ u, G k = .int .i64 u) (a : Option Addr) (zc : Nat) (w : World) (h8 : n ≤ 8) (hz : ∀ k, k < n → ∃ b off, a = some ⟨b, off, none⟩ ∧ b < w.heap.size ∧ w.cell? ⟨b, off + k, none⟩ = some (G k)) :
  Calls Tryz.prog 38 #[.slice a n zc] w fun e w' => ∃ a' c' g, e = .returned (.slice a' n c') ∧ NewRow w.heap.size w' a' c' g n G ∧ Below w.heap.size w w' := by
 have q24 : ∀ (w : World) (a : Option Addr) (n c n' c' : Nat), (binOp .eql 25 (.slice a n c) (.slice none n' c')).run Tryz.prog w = .ok (.bool a.isNone) w := fun w a n c n' c' => Lib.run_eql_slice_nil w _ _ a n c n' c' Tryz.underlying25
 obtain ⟨i0, hi, hz0, hz1, hz2⟩ := info_parts Tryz.info3
 cases a with
 | none =>
  have h0 : n = 0 := by
   by_cases c : n = 0
   ·exact c
   ·obtain ⟨_, _, h, _⟩ := hz 0 (by omega); cases h
  subst h0
  clear hz h8 hG
  go_enter Tryz.func38, Tryz.ntmps38
  go_wp2
  go_ret
  exact ⟨none, 0, 0, rfl, ⟨fun h => absurd h (Nat.lt_irrefl _), fun _ => rfl, (fun ad e => by cases e)⟩, Below.refl _ _⟩
 | some ad =>
  have hnews : ∀ (o : Obj) j u, ((List.range n).map G)[j]? = some u → (w.alloc o).cell? (ad.add j) = some u := by
   intro o j u hj
   have hlt : j < n := by
    have := (List.getElem?_eq_some_iff.1 hj).1
    simpa using this
   obtain ⟨b, off, ha, hb, hc⟩ := hz j hlt
   injection ha with ha
   subst ha
   rw [add_none, World.cell?_alloc_lt _ _ _ hb, hc]
   simp [hlt] at hj
   rw [hj]
  have hone : ∀ u ∈ (List.range n).map G, u.oneCell' = true := by
   intro u hu
   obtain ⟨k, hk, rfl⟩ := List.mem_map.1 hu
   obtain ⟨x, e⟩ := hG k (List.mem_range.1 hk)
   rw [e]; rfl
  clear hz
  go_enter Tryz.func38, Tryz.ntmps38
  go_wp2_with (first
   | (at_builtin; refine wpList_append_own _ rfl _ _ 25 rfl w.heap.size 3 i0 (.int .i64 0) 1 8 Tryz.underlying25 hi hz0 hz1 hz2 rfl (by decide) _ 0 [] rfl (World.ownsRow_lit w #[] 0 (Nat.le_refl _) (by decide) rfl) ad n zc ((List.range n).map G) rfl (by simp) (hnews _) hone (by unfold maxLen; omega) (by omega) (by simp) ?_; intro v' w1 hown' hgrow _)
   | go_in)
  have RB : Below w.heap.size w w1 := (grow_alloc (Below.refl _ _) _).grown hgrow (by simp) (fun j hj => by have hj' : some w.heap.size = some j := hj; injection hj' with hj'; exact Nat.le_of_eq hj')
  simp only [Nat.zero_add, List.nil_append] at hown'
  clear hgrow hnews hone
  have HR := new_row hown'
  obtain ⟨a', c', g, rfl, hn⟩ := HR
  go_wp2
  go_ret
  exact ⟨a', c', g, rfl, hn, RB⟩
theorem Tryz.info25 : (Tryz.prog.info? 25).map (fun i => (i.zero, i.size, i.bytes)) = some (some (.slice none 0 0), 1, 24) := by kernel_rfl
set_option maxHeartbeats 2000000 in
theorem copyB_new (n : Nat) (len : Nat → Nat) (G : Nat → Nat → Value) (hG : ∀ i k, i < n → k < len i → ∃ u, G i k = .bool u) (a : Option Addr) (zc : Nat) (w : World) (h8 : n ≤ 8) (hl : ∀ i, i < n → len i ≤ 8) (hz : IsGR w a n len G) :
  Calls Tryz.prog 114 #[.slice a n zc] w fun e w' => ∃ a' c' g B, e = .returned (.slice a' n c') ∧ OR w.heap.size w'.heap.size w' a' n len G g B ∧ Below w.heap.size w w' := by
 obtain ⟨i0, hi, hz0, hz1, hz2⟩ := info_parts Tryz.info80
 have HZ : Hid (IsGR w a n len G) := hz
 have HL : Hid (∀ i, i < n → len i ≤ 8) := hl
 have HG : Hid (∀ i k, i < n → k < len i → ∃ u, G i k = .bool u) := hG
 clear hz hl hG
 go_enter Tryz.func114, Tryz.ntmps114
 go_wp2
 go_loopw [3, 8] (fun v i wr => ∃ (k : Nat) (L : List (Option Addr × Nat × Nat)) (B : Nat → Nat), k ≤ n ∧ i = .int .i64 k ∧ Hid (CR 80 w.heap.size wr v k len G L B) ∧ Hid (Below w.heap.size w wr)) (fun _ i _ => n - (intOf i).toNat)
 case atStart => exact ⟨0, [], fun _ => 0, Nat.zero_le _, rfl, CR.nil _ _ _ _ _ _, Below.refl _ _⟩
 case round =>
  obtain ⟨k, L, B, hk, rfl, hrow, hB⟩ := hrel
  by_cases hlt : k < n
  ·obtain ⟨b, off, a1, c1, ea, hb, t0, hrd⟩ := HZ.out k hlt
   subst ea
   have d0 := ext_cell hB.out t0
   have i1 : (k : Int) < (n : Int) := by omega
   have i0' : (0 : Int) ≤ (k : Int) := by omega
   have CC : Hid (Calls Tryz.prog 129 #[.slice a1 (len k) c1] wr fun e w' => ∃ a' c' g, e = .returned (.slice a' (len k) c') ∧ NewRow wr.heap.size w' a' c' g (len k) (G k) ∧ Below wr.heap.size wr w') := cloneB_new (len k) (G k) (HG.out k · hlt) a1 c1 wr (HL.out k hlt) (fun j hj => by
    obtain ⟨b', off', e, h1, h2⟩ := hrd j hj
    exact ⟨b', off', e, Nat.lt_of_lt_of_le h1 hB.out.size, ext_cell hB.out h2⟩)
   have hLk := hrow.out.n
   generalize hln : len k = LK at *
   have HLN : Hid (len k = LK) := hln
   clear hln t0 hrd
   go_wp2_with fail
   refine CC.out.mono ?_
   rintro e w1 ⟨a', c', g, rfl, hnew, hb1⟩
   have HN1 : Hid (NewRow wr.heap.size w1 a' c' g (len k) (G k)) := by show NewRow _ _ _ _ _ _ _; rw [HLN.out]; exact hnew
   have hr1 : Hid (CR 80 w.heap.size w1 u3 k len G L B) := hrow.out.below hb1
   have HB1 : Hid (Below w.heap.size w w1) := grow_trans hB.out hb1
   have hsz : w.heap.size ≤ w1.heap.size := HB1.out.size
   have hwr : Hid (wr.heap.size ≤ w1.heap.size) := hb1.size
   have hvl : Hid (∀ j, u3.ownBlock = some j → j < wr.heap.size) := fun j e => (hrow.out.o.lt j e).2
   have hBl : Hid (∀ i, i < k → 0 < len i → B i < wr.heap.size) := fun i hi h => (hrow.out.b i hi h).2.1
   have hbw : Hid (w.heap.size ≤ wr.heap.size) := hB.out.size
   clear hnew hb1 hrow hB CC d0
   go_wp2_with (first | (at_builtin; (refine wpList_append_own_at _ rfl _ _ 26 rfl w.heap.size 80 i0 (.slice none 0 0) 1 24 Tryz.underlying26 hi hz0 hz1 hz2 rfl (by decide) _ _ _ rfl (hr1.out.o.alloc _) ⟨_, 0, none⟩ 1 1 [.slice a' LK c'] rfl rfl (news_one w1 _ 80 _ (by simp)) (one_sl _ _ _) (by unfold maxLen; omega) (by omega) (by simp; omega) ?_); intro v' w3 hown' hgrow _ hv3) | go_in)
   have R : Hid (CR 80 w.heap.size w3 v' (k + 1) len G (L ++ [(a', len k, c')]) (fun i => if i = k then g else B i)) := CR.push (hr1.out.below (grow_alloc (Below.refl _ _) (.cells #[.slice a' LK c'] 80))) hLk (by rw [HLN.out]; exact hown') hgrow hv3 (HN1.out.below (grow_alloc (Below.refl _ _) _)) hbw.out hvl.out hBl.out (fun i => if i = k then g else B i) (if_pos rfl) (fun i h => if_neg h)
   have RB : Hid (Below w.heap.size w w3) := (HB1.out.alloc hsz _).grown hgrow (by simp; omega) (fun j hj => (hr1.out.o.lt j hj).1)
   clear hown' hgrow hv3 hr1 HB1 HN1 hwr hvl hBl hbw
   go_wp2
   go_roundw
   case rel => exact ⟨k + 1, _, _, by omega, by go_num, R, RB⟩
   case measure => simp [intOf]; omega
  ·have hkk : k = n := by omega
   subst hkk
   have i1 : ¬ (k : Int) < (k : Int) := by omega
   obtain ⟨a', c', g, hv, hor⟩ := hrow.out.fin
   have HO : Hid (OR w.heap.size wr.heap.size wr a' k len G g B) := hor
   subst hv
   clear hor hrow
   go_wp2
   go_ret
   exact ⟨a', ⟨c', rfl⟩, ⟨g, B, HO.out⟩, hB.out⟩
set_option maxHeartbeats 2000000 in
theorem copyI_new (n : Nat) (len : Nat → Nat) (G : Nat → Nat → Value) (hG : ∀ i k, i < n → k < len i → ∃ u, G i k = .int .i64 u) (a : Option Addr) (zc : Nat) (w : World) (h8 : n ≤ 8) (hl : ∀ i, i < n → len i ≤ 8) (hz : IsGR w a n len G) :
  Calls Tryz.prog 115 #[.slice a n zc] w fun e w' => ∃ a' c' g B, e = .returned (.slice a' n c') ∧ OR w.heap.size w'.heap.size w' a' n len G g B ∧ Below w.heap.size w w' := by
 obtain ⟨i0, hi, hz0, hz1, hz2⟩ := info_parts Tryz.info25
 have HZ : Hid (IsGR w a n len G) := hz
 have HL : Hid (∀ i, i < n → len i ≤ 8) := hl
 have HG : Hid (∀ i k, i < n → k < len i → ∃ u, G i k = .int .i64 u) := hG
 clear hz hl hG
 go_enter Tryz.func115, Tryz.ntmps115
 go_wp2
 go_loopw [3, 8] (fun v i wr => ∃ (k : Nat) (L : List (Option Addr × Nat × Nat)) (B : Nat → Nat), k ≤ n ∧ i = .int .i64 k ∧ Hid (CR 25 w.heap.size wr v k len G L B) ∧ Hid (Below w.heap.size w wr)) (fun _ i _ => n - (intOf i).toNat)
 case atStart => exact ⟨0, [], fun _ => 0, Nat.zero_le _, rfl, CR.nil _ _ _ _ _ _, Below.refl _ _⟩
 case round =>
  obtain ⟨k, L, B, hk, rfl, hrow, hB⟩ := hrel
  by_cases hlt : k < n
  ·obtain ⟨b, off, a1, c1, ea, hb, t0, hrd⟩ := HZ.out k hlt
   subst ea
   have d0 := ext_cell hB.out t0
   have i1 : (k : Int) < (n : Int) := by omega
   have i0' : (0 : Int) ≤ (k : Int) := by omega
   have CC : Hid (Calls Tryz.prog 38 #[.slice a1 (len k) c1] wr fun e w' => ∃ a' c' g, e = .returned (.slice a' (len k) c') ∧ NewRow wr.heap.size w' a' c' g (len k) (G k) ∧ Below wr.heap.size wr w') := cloneI_new (len k) (G k) (HG.out k · hlt) a1 c1 wr (HL.out k hlt) (fun j hj => by
    obtain ⟨b', off', e, h1, h2⟩ := hrd j hj
    exact ⟨b', off', e, Nat.lt_of_lt_of_le h1 hB.out.size, ext_cell hB.out h2⟩)
   have hLk := hrow.out.n
   generalize hln : len k = LK at *
   have HLN : Hid (len k = LK) := hln
   clear hln t0 hrd
   go_wp2_with fail
   refine CC.out.mono ?_
   rintro e w1 ⟨a', c', g, rfl, hnew, hb1⟩
   have HN1 : Hid (NewRow wr.heap.size w1 a' c' g (len k) (G k)) := by show NewRow _ _ _ _ _ _ _; rw [HLN.out]; exact hnew
   have hr1 : Hid (CR 25 w.heap.size w1 u3 k len G L B) := hrow.out.below hb1
   have HB1 : Hid (Below w.heap.size w w1) := grow_trans hB.out hb1
   have hsz : w.heap.size ≤ w1.heap.size := HB1.out.size
   have hwr : Hid (wr.heap.size ≤ w1.heap.size) := hb1.size
   have hvl : Hid (∀ j, u3.ownBlock = some j → j < wr.heap.size) := fun j e => (hrow.out.o.lt j e).2
   have hBl : Hid (∀ i, i < k → 0 < len i → B i < wr.heap.size) := fun i hi h => (hrow.out.b i hi h).2.1
   have hbw : Hid (w.heap.size ≤ wr.heap.size) := hB.out.size
   clear hnew hb1 hrow hB CC d0
   go_wp2_with (first | (at_builtin; (refine wpList_append_own_at _ rfl _ _ 27 rfl w.heap.size 25 i0 (.slice none 0 0) 1 24 Tryz.underlying27 hi hz0 hz1 hz2 rfl (by decide) _ _ _ rfl (hr1.out.o.alloc _) ⟨_, 0, none⟩ 1 1 [.slice a' LK c'] rfl rfl (news_one w1 _ 25 _ (by simp)) (one_sl _ _ _) (by unfold maxLen; omega) (by omega) (by simp; omega) ?_); intro v' w3 hown' hgrow _ hv3) | go_in)
   have R : Hid (CR 25 w.heap.size w3 v' (k + 1) len G (L ++ [(a', len k, c')]) (fun i => if i = k then g else B i)) := CR.push (hr1.out.below (grow_alloc (Below.refl _ _) (.cells #[.slice a' LK c'] 25))) hLk (by rw [HLN.out]; exact hown') hgrow hv3 (HN1.out.below (grow_alloc (Below.refl _ _) _)) hbw.out hvl.out hBl.out (fun i => if i = k then g else B i) (if_pos rfl) (fun i h => if_neg h)
   have RB : Hid (Below w.heap.size w w3) := (HB1.out.alloc hsz _).grown hgrow (by simp; omega) (fun j hj => (hr1.out.o.lt j hj).1)
   clear hown' hgrow hv3 hr1 HB1 HN1 hwr hvl hBl hbw
   go_wp2
   go_roundw
   case rel => exact ⟨k + 1, _, _, by omega, by go_num, R, RB⟩
   case measure => simp [intOf]; omega
  ·have hkk : k = n := by omega
   subst hkk
   have i1 : ¬ (k : Int) < (k : Int) := by omega
   obtain ⟨a', c', g, hv, hor⟩ := hrow.out.fin
   have HO : Hid (OR w.heap.size wr.heap.size wr a' k len G g B) := hor
   subst hv
   clear hor hrow
   go_wp2
   go_ret
   exact ⟨a', ⟨c', rfl⟩, ⟨g, B, HO.out⟩, hB.out⟩
end Go.Proofs.YtcgpkonfneofdaaGreat
namespace Go.Proofs.YtcgpkonfneofdaaGreat
open Go.RowKit
theorem set_off {w : World} {b i j : Nat} {u v : Value} (hne : i ≠ j) (hc : w.cell? ⟨b, i, none⟩ = some u) : (w.setCell ⟨b, j, none⟩ v).cell? ⟨b, i, none⟩ = some u := by
 simp [go_sem, hc]
 try omega
theorem set_here {w : World} {b i : Nat} {u v : Value} (hc : w.cell? ⟨b, i, none⟩ = some u) : (w.setCell ⟨b, i, none⟩ v).cell? ⟨b, i, none⟩ = some v := by
 simp [go_sem, hc]
structure HL (w0 w : World) (H p sh : Nat) (l : List TxA) (la : Option Addr) (lc : Nat) (s1 s2 s3 s4 v5 v6 v7 : Value) (L5 L6 : List (Nat × Nat)) (L7 : List (Option Addr × Nat × Nat)) : Prop where
 c0 : w.cell? ⟨H, 0, none⟩ = some (.pointer (some ⟨p, 0, none⟩))
 c1 : w.cell? ⟨H, 1, none⟩ = some s1
 c2 : w.cell? ⟨H, 2, none⟩ = some s2
 c3 : w.cell? ⟨H, 3, none⟩ = some s3
 c4 : w.cell? ⟨H, 4, none⟩ = some s4
 c5 : w.cell? ⟨H, 5, none⟩ = some v5
 c6 : w.cell? ⟨H, 6, none⟩ = some v6
 c7 : w.cell? ⟨H, 7, none⟩ = some v7
 fz : ∀ j, w.frozen? ⟨H, j, none⟩ = false
 p0 : w.cell? ⟨p, 0, none⟩ = some (.int .i64 sh)
 p1 : w.cell? ⟨p, 1, none⟩ = some (.slice la l.length lc)
 tri : Tri (H + 1) w v5 v6 v7 sh l L5 L6 L7
 bl : Below w0.heap.size w0 w
 hw : w0.heap.size ≤ H
 hp : p < H
 hs : H < w.heap.size
theorem HL.below {w0 w w' : World} {H p sh : Nat} {l : List TxA} {la : Option Addr} {lc : Nat} {s1 s2 s3 s4 v5 v6 v7 : Value} {L5 L6 : List (Nat × Nat)} {L7 : List (Option Addr × Nat × Nat)} (h : HL w0 w H p sh l la lc s1 s2 s3 s4 v5 v6 v7 L5 L6 L7) (hb : Below w.heap.size w w') : HL w0 w' H p sh l la lc s1 s2 s3 s4 v5 v6 v7 L5 L6 L7 :=
 ⟨ext_cell hb h.c0, ext_cell hb h.c1, ext_cell hb h.c2, ext_cell hb h.c3, ext_cell hb h.c4, ext_cell hb h.c5, ext_cell hb h.c6, ext_cell hb h.c7, fun j => (hb.frozen (p := ⟨H, j, none⟩) h.hs).trans (h.fz j), ext_cell hb h.p0, ext_cell hb h.p1, h.tri.below hb, grow_trans h.bl hb, h.hw, h.hp, Nat.lt_of_lt_of_le h.hs hb.size⟩
theorem HL.push5 {w0 V wc w3 : World} {H p sh : Nat} {l : List TxA} {la : Option Addr} {lc : Nat} {s1 s2 s3 s4 v5 v6 v7 v5' : Value} {L5 L6 : List (Nat × Nat)} {L7 : List (Option Addr × Nat × Nat)} (hV : HL w0 V H p sh l la lc s1 s2 s3 s4 v5 v6 v7 L5 L6 L7) (hb : Below V.heap.size V wc) (g c : Nat)
  (ho : w3.ownsRow (H + 1) 80 1 v5' (L5.length + 1) ((L5.map fun p => Value.slice (some ⟨p.1, 0, none⟩) sh p.2) ++ [.slice (some ⟨g, 0, none⟩) sh c])) (hg : wc.grownBy w3 v5.ownBlock) (hv : v5'.ownBlock = v5.ownBlock ∨ v5'.ownBlock = some wc.heap.size)
  (h1 : H + 1 ≤ g) (h2 : g < wc.heap.size) (h3 : V.heap.size ≤ g) (h4 : ∀ j, j < sh → wc.cell? ⟨g, j, none⟩ = some (.bool (ptB sh (gX l L5.length) j))) :
  HL w0 (w3.setCell ⟨H, 5, none⟩ v5') H p sh l la lc s1 s2 s3 s4 v5' v6 v7 (L5 ++ [(g, c)]) L6 L7 := by
 have hc := hV.below hb
 have hn : some H ≠ v5.ownBlock := fun e => by have := (hc.tri.o5.lt H e.symm).1; omega
 have hp : some p ≠ v5.ownBlock := fun e => by have := (hc.tri.o5.lt p e.symm).1; have := hc.hp; omega
 have far : ∀ b, V.heap.size ≤ b → Far3 v5 v6 v7 b := fun b hb' => ⟨fun e => by have := (hV.tri.o5.lt b e).2; omega, fun e => by have := (hV.tri.o6.lt b e).2; omega, fun e => by have := (hV.tri.o7.lt b e).2; omega⟩
 have T := hc.tri.push5 g c ho hg hv h1 h2 (far g h3) h4
 have hHp : H ≠ p := by have := hc.hp; omega
 have hbl : Below w0.heap.size w0 w3 := hc.bl.grown hg hc.bl.size (fun j e => by have := (hc.tri.o5.lt j e).1; have := hc.hw; omega)
 refine ⟨(set_off (by decide) (hg.cell hc.c0 hn)), (set_off (by decide) (hg.cell hc.c1 hn)), (set_off (by decide) (hg.cell hc.c2 hn)), (set_off (by decide) (hg.cell hc.c3 hn)), (set_off (by decide) (hg.cell hc.c4 hn)), (set_here (hg.cell hc.c5 hn)), (set_off (by decide) (hg.cell hc.c6 hn)), (set_off (by decide) (hg.cell hc.c7 hn)), fun j => ?_, ?_, ?_, T.on (grownBy_one w3 H 5 _) (fun j e => by injection e with e; omega), grow_set hbl hc.hw _, hc.hw, hc.hp, ?_⟩
 ·simp only [World.frozen?_setCell]
  exact (World.frozen?_of_block (a := ⟨H, j, none⟩) (hg.block H hc.hs hn)).trans (hc.fz j)
 ·rw [World.cell?_setCell_far _ _ _ _ (by simpa using hHp)]; exact hg.cell hc.p0 hp
 ·rw [World.cell?_setCell_far _ _ _ _ (by simpa using hHp)]; exact hg.cell hc.p1 hp
 ·simp only [World.size_setCell]; exact Nat.lt_of_lt_of_le hc.hs hg.size
theorem HL.push6 {w0 V wc w3 : World} {H p sh : Nat} {l : List TxA} {la : Option Addr} {lc : Nat} {s1 s2 s3 s4 v5 v6 v7 v6' : Value} {L5 L6 : List (Nat × Nat)} {L7 : List (Option Addr × Nat × Nat)} (hV : HL w0 V H p sh l la lc s1 s2 s3 s4 v5 v6 v7 L5 L6 L7) (hb : Below V.heap.size V wc) (g c : Nat)
  (ho : w3.ownsRow (H + 1) 80 1 v6' (L6.length + 1) ((L6.map fun p => Value.slice (some ⟨p.1, 0, none⟩) sh p.2) ++ [.slice (some ⟨g, 0, none⟩) sh c])) (hg : wc.grownBy w3 v6.ownBlock) (hv : v6'.ownBlock = v6.ownBlock ∨ v6'.ownBlock = some wc.heap.size)
  (h1 : H + 1 ≤ g) (h2 : g < wc.heap.size) (h3 : V.heap.size ≤ g) (h4 : ∀ j, j < sh → wc.cell? ⟨g, j, none⟩ = some (.bool (acB sh (gX l L6.length) j))) :
  HL w0 (w3.setCell ⟨H, 6, none⟩ v6') H p sh l la lc s1 s2 s3 s4 v5 v6' v7 L5 (L6 ++ [(g, c)]) L7 := by
 have hc := hV.below hb
 have hn : some H ≠ v6.ownBlock := fun e => by have := (hc.tri.o6.lt H e.symm).1; omega
 have hp : some p ≠ v6.ownBlock := fun e => by have := (hc.tri.o6.lt p e.symm).1; have := hc.hp; omega
 have far : ∀ b, V.heap.size ≤ b → Far3 v5 v6 v7 b := fun b hb' => ⟨fun e => by have := (hV.tri.o5.lt b e).2; omega, fun e => by have := (hV.tri.o6.lt b e).2; omega, fun e => by have := (hV.tri.o7.lt b e).2; omega⟩
 have T := hc.tri.push6 g c ho hg hv h1 h2 (far g h3) h4
 have hHp : H ≠ p := by have := hc.hp; omega
 have hbl : Below w0.heap.size w0 w3 := hc.bl.grown hg hc.bl.size (fun j e => by have := (hc.tri.o6.lt j e).1; have := hc.hw; omega)
 refine ⟨(set_off (by decide) (hg.cell hc.c0 hn)), (set_off (by decide) (hg.cell hc.c1 hn)), (set_off (by decide) (hg.cell hc.c2 hn)), (set_off (by decide) (hg.cell hc.c3 hn)), (set_off (by decide) (hg.cell hc.c4 hn)), (set_off (by decide) (hg.cell hc.c5 hn)), (set_here (hg.cell hc.c6 hn)), (set_off (by decide) (hg.cell hc.c7 hn)), fun j => ?_, ?_, ?_, T.on (grownBy_one w3 H 6 _) (fun j e => by injection e with e; omega), grow_set hbl hc.hw _, hc.hw, hc.hp, ?_⟩
 ·simp only [World.frozen?_setCell]
  exact (World.frozen?_of_block (a := ⟨H, j, none⟩) (hg.block H hc.hs hn)).trans (hc.fz j)
 ·rw [World.cell?_setCell_far _ _ _ _ (by simpa using hHp)]; exact hg.cell hc.p0 hp
 ·rw [World.cell?_setCell_far _ _ _ _ (by simpa using hHp)]; exact hg.cell hc.p1 hp
 ·simp only [World.size_setCell]; exact Nat.lt_of_lt_of_le hc.hs hg.size
theorem HL.push7 {w0 V wc w3 : World} {H p sh : Nat} {l : List TxA} {la : Option Addr} {lc : Nat} {s1 s2 s3 s4 v5 v6 v7 v7' : Value} {L5 L6 : List (Nat × Nat)} {L7 : List (Option Addr × Nat × Nat)} (hV : HL w0 V H p sh l la lc s1 s2 s3 s4 v5 v6 v7 L5 L6 L7) (hb : Below V.heap.size V wc) (a : Option Addr) (c : Nat)
  (ho : w3.ownsRow (H + 1) 131 1 v7' (L7.length + 1) ((L7.map fun p => Value.slice p.1 p.2.1 p.2.2) ++ [.slice a (lkX (gX l L7.length)).length c])) (hg : wc.grownBy w3 v7.ownBlock) (hv : v7'.ownBlock = v7.ownBlock ∨ v7'.ownBlock = some wc.heap.size)
  (h1 : IsLks wc a (lkX (gX l L7.length))) (h2 : ∀ ad, a = some ad → V.heap.size ≤ ad.block ∧ ad.block < wc.heap.size) :
  HL w0 (w3.setCell ⟨H, 7, none⟩ v7') H p sh l la lc s1 s2 s3 s4 v5 v6 v7' L5 L6 (L7 ++ [(a, (lkX (gX l L7.length)).length, c)]) := by
 have hc := hV.below hb
 have hn : some H ≠ v7.ownBlock := fun e => by have := (hc.tri.o7.lt H e.symm).1; omega
 have hp : some p ≠ v7.ownBlock := fun e => by have := (hc.tri.o7.lt p e.symm).1; have := hc.hp; omega
 have far : ∀ b, V.heap.size ≤ b → Far3 v5 v6 v7 b := fun b hb' => ⟨fun e => by have := (hV.tri.o5.lt b e).2; omega, fun e => by have := (hV.tri.o6.lt b e).2; omega, fun e => by have := (hV.tri.o7.lt b e).2; omega⟩
 have T := hc.tri.push7 a c ho hg hv h1 (fun ad e => ⟨by have := (h2 ad e).1; have := hV.hs; omega, (h2 ad e).2, far _ (h2 ad e).1⟩)
 have hHp : H ≠ p := by have := hc.hp; omega
 have hbl : Below w0.heap.size w0 w3 := hc.bl.grown hg hc.bl.size (fun j e => by have := (hc.tri.o7.lt j e).1; have := hc.hw; omega)
 refine ⟨(set_off (by decide) (hg.cell hc.c0 hn)), (set_off (by decide) (hg.cell hc.c1 hn)), (set_off (by decide) (hg.cell hc.c2 hn)), (set_off (by decide) (hg.cell hc.c3 hn)), (set_off (by decide) (hg.cell hc.c4 hn)), (set_off (by decide) (hg.cell hc.c5 hn)), (set_off (by decide) (hg.cell hc.c6 hn)), (set_here (hg.cell hc.c7 hn)), fun j => ?_, ?_, ?_, T.on (grownBy_one w3 H 7 _) (fun j e => by injection e with e; omega), grow_set hbl hc.hw _, hc.hw, hc.hp, ?_⟩
 ·simp only [World.frozen?_setCell]
  exact (World.frozen?_of_block (a := ⟨H, j, none⟩) (hg.block H hc.hs hn)).trans (hc.fz j)
 ·rw [World.cell?_setCell_far _ _ _ _ (by simpa using hHp)]; exact hg.cell hc.p0 hp
 ·rw [World.cell?_setCell_far _ _ _ _ (by simpa using hHp)]; exact hg.cell hc.p1 hp
 ·simp only [World.size_setCell]; exact Nat.lt_of_lt_of_le hc.hs hg.size
end Go.Proofs.YtcgpkonfneofdaaGreat
