/-
  A hall that is being made, row by row.
  Conditions: those that each theorem states.
-/
import Derived.Test.YtebjkmknhpgemaaGreatHallJ
import Derived.Test.YtebjkmknhpgemaaGreatLocksX
import Derived.WalkKit
import Derived.WalkSpells
import Derived.WalkLawsBesides
import Derived.Defers
import Derived.Recover
import Derived.ProofKit
import Derived.Deep.RegionHeld
import Derived.Deep.RegionHeld3
import Derived.Deep.RegionLaw
import Derived.Deep.DeepCutAuto
import Derived.Deep.QuietTactic
import Derived.BigQuiet
import Derived.Maps.AppendAt
import Derived.Lib.SliceRun
import Derived.Deep.AppendLies
namespace Go.Proofs.YtebjkmknhpgemaaGreat
open Go.RowKit

theorem set_off {w : World} {b i j : Nat} {u v : Value} (hne : i ≠ j) (hc : w.cell? ⟨b, i, none⟩ = some u) : (w.setCell ⟨b, j, none⟩ v).cell? ⟨b, i, none⟩ = some u := by
  simp [go_sem, hc]
  try omega
theorem set_here {w : World} {b i : Nat} {u v : Value} (hc : w.cell? ⟨b, i, none⟩ = some u) : (w.setCell ⟨b, i, none⟩ v).cell? ⟨b, i, none⟩ = some v := by
  simp [go_sem, hc]
/-- A hall that is being made. -/
structure HL (w0 w : World) (H p sh : Nat) (l : List TxA) (la : Option Addr) (lc : Nat) (s1 s2 s3 s4 v5 v6 v7 : Value) (L5 L6 : List (Nat × Nat)) (L7 : List (Option Addr × Nat × Nat)) : Prop where
  c0 : w.cell? ⟨H, 0, none⟩ = some (.pointer (some ⟨p, 0, none⟩))
  c1 : w.cell? ⟨H, 1, none⟩ = some s1
  c2 : w.cell? ⟨H, 2, none⟩ = some s2
  c3 : w.cell? ⟨H, 3, none⟩ = some s3
  c4 : w.cell? ⟨H, 4, none⟩ = some s4
  c5 : w.cell? ⟨H, 5, none⟩ = some v5
  c6 : w.cell? ⟨H, 6, none⟩ = some v6
  c7 : w.cell? ⟨H, 7, none⟩ = some v7
  fz : ∀ j, w.frozen? ⟨H, j, none⟩ = false
  p0 : w.cell? ⟨p, 0, none⟩ = some (.int .i64 sh)
  p1 : w.cell? ⟨p, 1, none⟩ = some (.slice la l.length lc)
  tri : Tri (H + 1) w v5 v6 v7 sh l L5 L6 L7
  bl : Below w0.heap.size w0 w
  hw : w0.heap.size ≤ H
  hp : p < H
  hs : H < w.heap.size
theorem HL.below {w0 w w' : World} {H p sh : Nat} {l : List TxA} {la : Option Addr} {lc : Nat} {s1 s2 s3 s4 v5 v6 v7 : Value} {L5 L6 : List (Nat × Nat)} {L7 : List (Option Addr × Nat × Nat)} (h : HL w0 w H p sh l la lc s1 s2 s3 s4 v5 v6 v7 L5 L6 L7) (hb : Below w.heap.size w w') : HL w0 w' H p sh l la lc s1 s2 s3 s4 v5 v6 v7 L5 L6 L7 :=
  ⟨ext_cell hb h.c0, ext_cell hb h.c1, ext_cell hb h.c2, ext_cell hb h.c3, ext_cell hb h.c4, ext_cell hb h.c5, ext_cell hb h.c6, ext_cell hb h.c7, fun j => (hb.frozen (p := ⟨H, j, none⟩) h.hs).trans (h.fz j), ext_cell hb h.p0, ext_cell hb h.p1, h.tri.below hb, grow_trans h.bl hb, h.hw, h.hp, Nat.lt_of_lt_of_le h.hs hb.size⟩

theorem HL.push5 {w0 V wc w3 : World} {H p sh : Nat} {l : List TxA} {la : Option Addr} {lc : Nat} {s1 s2 s3 s4 v5 v6 v7 v5' : Value} {L5 L6 : List (Nat × Nat)} {L7 : List (Option Addr × Nat × Nat)} (hV : HL w0 V H p sh l la lc s1 s2 s3 s4 v5 v6 v7 L5 L6 L7) (hb : Below V.heap.size V wc) (g c : Nat)
    (ho : w3.ownsRow (H + 1) 65 1 v5' (L5.length + 1) ((L5.map fun p => Value.slice (some ⟨p.1, 0, none⟩) sh p.2) ++ [.slice (some ⟨g, 0, none⟩) sh c])) (hg : wc.grownBy w3 v5.ownBlock) (hv : v5'.ownBlock = v5.ownBlock ∨ v5'.ownBlock = some wc.heap.size)
    (h1 : H + 1 ≤ g) (h2 : g < wc.heap.size) (h3 : V.heap.size ≤ g) (h4 : ∀ j, j < sh → wc.cell? ⟨g, j, none⟩ = some (.bool (ptB sh (gX l L5.length) j))) :
    HL w0 (w3.setCell ⟨H, 5, none⟩ v5') H p sh l la lc s1 s2 s3 s4 v5' v6 v7 (L5 ++ [(g, c)]) L6 L7 := by
  have hc := hV.below hb
  have hn : some H ≠ v5.ownBlock := fun e => by have := (hc.tri.o5.lt H e.symm).1; omega
  have hp : some p ≠ v5.ownBlock := fun e => by have := (hc.tri.o5.lt p e.symm).1; have := hc.hp; omega
  have far : ∀ b, V.heap.size ≤ b → Far3 v5 v6 v7 b := fun b hb' => ⟨fun e => by have := (hV.tri.o5.lt b e).2; omega, fun e => by have := (hV.tri.o6.lt b e).2; omega, fun e => by have := (hV.tri.o7.lt b e).2; omega⟩
  have T := hc.tri.push5 g c ho hg hv h1 h2 (far g h3) h4
  have hHp : H ≠ p := by have := hc.hp; omega
  have hbl : Below w0.heap.size w0 w3 := hc.bl.grown hg hc.bl.size (fun j e => by have := (hc.tri.o5.lt j e).1; have := hc.hw; omega)
  refine ⟨(set_off (by decide) (hg.cell hc.c0 hn)), (set_off (by decide) (hg.cell hc.c1 hn)), (set_off (by decide) (hg.cell hc.c2 hn)), (set_off (by decide) (hg.cell hc.c3 hn)), (set_off (by decide) (hg.cell hc.c4 hn)), (set_here (hg.cell hc.c5 hn)), (set_off (by decide) (hg.cell hc.c6 hn)), (set_off (by decide) (hg.cell hc.c7 hn)), fun j => ?_, ?_, ?_, T.on (grownBy_one w3 H 5 _) (fun j e => by injection e with e; omega), grow_set hbl hc.hw _, hc.hw, hc.hp, ?_⟩
  · simp only [World.frozen?_setCell]
    exact (World.frozen?_of_block (a := ⟨H, j, none⟩) (hg.block H hc.hs hn)).trans (hc.fz j)
  · rw [World.cell?_setCell_far _ _ _ _ (by simpa using hHp)]; exact hg.cell hc.p0 hp
  · rw [World.cell?_setCell_far _ _ _ _ (by simpa using hHp)]; exact hg.cell hc.p1 hp
  · simp only [World.size_setCell]; exact Nat.lt_of_lt_of_le hc.hs hg.size

theorem HL.push6 {w0 V wc w3 : World} {H p sh : Nat} {l : List TxA} {la : Option Addr} {lc : Nat} {s1 s2 s3 s4 v5 v6 v7 v6' : Value} {L5 L6 : List (Nat × Nat)} {L7 : List (Option Addr × Nat × Nat)} (hV : HL w0 V H p sh l la lc s1 s2 s3 s4 v5 v6 v7 L5 L6 L7) (hb : Below V.heap.size V wc) (g c : Nat)
    (ho : w3.ownsRow (H + 1) 65 1 v6' (L6.length + 1) ((L6.map fun p => Value.slice (some ⟨p.1, 0, none⟩) sh p.2) ++ [.slice (some ⟨g, 0, none⟩) sh c])) (hg : wc.grownBy w3 v6.ownBlock) (hv : v6'.ownBlock = v6.ownBlock ∨ v6'.ownBlock = some wc.heap.size)
    (h1 : H + 1 ≤ g) (h2 : g < wc.heap.size) (h3 : V.heap.size ≤ g) (h4 : ∀ j, j < sh → wc.cell? ⟨g, j, none⟩ = some (.bool (acB sh (gX l L6.length) j))) :
    HL w0 (w3.setCell ⟨H, 6, none⟩ v6') H p sh l la lc s1 s2 s3 s4 v5 v6' v7 L5 (L6 ++ [(g, c)]) L7 := by
  have hc := hV.below hb
  have hn : some H ≠ v6.ownBlock := fun e => by have := (hc.tri.o6.lt H e.symm).1; omega
  have hp : some p ≠ v6.ownBlock := fun e => by have := (hc.tri.o6.lt p e.symm).1; have := hc.hp; omega
  have far : ∀ b, V.heap.size ≤ b → Far3 v5 v6 v7 b := fun b hb' => ⟨fun e => by have := (hV.tri.o5.lt b e).2; omega, fun e => by have := (hV.tri.o6.lt b e).2; omega, fun e => by have := (hV.tri.o7.lt b e).2; omega⟩
  have T := hc.tri.push6 g c ho hg hv h1 h2 (far g h3) h4
  have hHp : H ≠ p := by have := hc.hp; omega
  have hbl : Below w0.heap.size w0 w3 := hc.bl.grown hg hc.bl.size (fun j e => by have := (hc.tri.o6.lt j e).1; have := hc.hw; omega)
  refine ⟨(set_off (by decide) (hg.cell hc.c0 hn)), (set_off (by decide) (hg.cell hc.c1 hn)), (set_off (by decide) (hg.cell hc.c2 hn)), (set_off (by decide) (hg.cell hc.c3 hn)), (set_off (by decide) (hg.cell hc.c4 hn)), (set_off (by decide) (hg.cell hc.c5 hn)), (set_here (hg.cell hc.c6 hn)), (set_off (by decide) (hg.cell hc.c7 hn)), fun j => ?_, ?_, ?_, T.on (grownBy_one w3 H 6 _) (fun j e => by injection e with e; omega), grow_set hbl hc.hw _, hc.hw, hc.hp, ?_⟩
  · simp only [World.frozen?_setCell]
    exact (World.frozen?_of_block (a := ⟨H, j, none⟩) (hg.block H hc.hs hn)).trans (hc.fz j)
  · rw [World.cell?_setCell_far _ _ _ _ (by simpa using hHp)]; exact hg.cell hc.p0 hp
  · rw [World.cell?_setCell_far _ _ _ _ (by simpa using hHp)]; exact hg.cell hc.p1 hp
  · simp only [World.size_setCell]; exact Nat.lt_of_lt_of_le hc.hs hg.size

theorem HL.push7 {w0 V wc w3 : World} {H p sh : Nat} {l : List TxA} {la : Option Addr} {lc : Nat} {s1 s2 s3 s4 v5 v6 v7 v7' : Value} {L5 L6 : List (Nat × Nat)} {L7 : List (Option Addr × Nat × Nat)} (hV : HL w0 V H p sh l la lc s1 s2 s3 s4 v5 v6 v7 L5 L6 L7) (hb : Below V.heap.size V wc) (a : Option Addr) (c : Nat)
    (ho : w3.ownsRow (H + 1) 131 1 v7' (L7.length + 1) ((L7.map fun p => Value.slice p.1 p.2.1 p.2.2) ++ [.slice a (lkX (gX l L7.length)).length c])) (hg : wc.grownBy w3 v7.ownBlock) (hv : v7'.ownBlock = v7.ownBlock ∨ v7'.ownBlock = some wc.heap.size)
    (h1 : IsLks wc a (lkX (gX l L7.length))) (h2 : ∀ ad, a = some ad → V.heap.size ≤ ad.block ∧ ad.block < wc.heap.size) :
    HL w0 (w3.setCell ⟨H, 7, none⟩ v7') H p sh l la lc s1 s2 s3 s4 v5 v6 v7' L5 L6 (L7 ++ [(a, (lkX (gX l L7.length)).length, c)]) := by
  have hc := hV.below hb
  have hn : some H ≠ v7.ownBlock := fun e => by have := (hc.tri.o7.lt H e.symm).1; omega
  have hp : some p ≠ v7.ownBlock := fun e => by have := (hc.tri.o7.lt p e.symm).1; have := hc.hp; omega
  have far : ∀ b, V.heap.size ≤ b → Far3 v5 v6 v7 b := fun b hb' => ⟨fun e => by have := (hV.tri.o5.lt b e).2; omega, fun e => by have := (hV.tri.o6.lt b e).2; omega, fun e => by have := (hV.tri.o7.lt b e).2; omega⟩
  have T := hc.tri.push7 a c ho hg hv h1 (fun ad e => ⟨by have := (h2 ad e).1; have := hV.hs; omega, (h2 ad e).2, far _ (h2 ad e).1⟩)
  have hHp : H ≠ p := by have := hc.hp; omega
  have hbl : Below w0.heap.size w0 w3 := hc.bl.grown hg hc.bl.size (fun j e => by have := (hc.tri.o7.lt j e).1; have := hc.hw; omega)
  refine ⟨(set_off (by decide) (hg.cell hc.c0 hn)), (set_off (by decide) (hg.cell hc.c1 hn)), (set_off (by decide) (hg.cell hc.c2 hn)), (set_off (by decide) (hg.cell hc.c3 hn)), (set_off (by decide) (hg.cell hc.c4 hn)), (set_off (by decide) (hg.cell hc.c5 hn)), (set_off (by decide) (hg.cell hc.c6 hn)), (set_here (hg.cell hc.c7 hn)), fun j => ?_, ?_, ?_, T.on (grownBy_one w3 H 7 _) (fun j e => by injection e with e; omega), grow_set hbl hc.hw _, hc.hw, hc.hp, ?_⟩
  · simp only [World.frozen?_setCell]
    exact (World.frozen?_of_block (a := ⟨H, j, none⟩) (hg.block H hc.hs hn)).trans (hc.fz j)
  · rw [World.cell?_setCell_far _ _ _ _ (by simpa using hHp)]; exact hg.cell hc.p0 hp
  · rw [World.cell?_setCell_far _ _ _ _ (by simpa using hHp)]; exact hg.cell hc.p1 hp
  · simp only [World.size_setCell]; exact Nat.lt_of_lt_of_le hc.hs hg.size
end Go.Proofs.YtebjkmknhpgemaaGreat
