/-
  The document's own apply: one transaction at a store.
  Conditions: what it is handed can be read, and has no error.
-/
import Derived.Test.YtikolifbljnokaaStoreH
import Derived.WalkKit
import Derived.WalkSpells
import Derived.WalkLawsBesides
import Derived.Defers
import Derived.Recover
import Derived.ProofKit
import Derived.Deep.RegionHeld
import Derived.Deep.RegionHeld3
import Derived.Deep.DeepCutAuto
import Derived.BigQuiet
namespace Go.Proofs.Ytikolifbljnokaa
open Go.RowKit

theorem grownBy_drew2 {w w' : World} {row : Option Nat} (h : w.grownBy w' row) : w.grownBy w'.drew row := ⟨h.os, h.tape, h.output, h.size, h.block⟩

variable (sa : Option Addr) (sc : Nat) (s : List Int) (ra ga ta : Option Addr) (rc gc tc : Nat) (rs : List Int) (gs : List Gd) (ss : List St)

theorem news_ints {w : World} {s : List Int} {ad : Addr} (hs : IsInts w (some ad) s) : ∀ j u, (s.map (Value.int .i64))[j]? = some u → w.cell? (ad.add j) = some u := by
  intro j u hj
  have hlt : j < s.length := by
    have := (List.getElem?_eq_some_iff.1 hj).1
    simpa using this
  obtain ⟨b, off, ha, hb, hc⟩ := hs j hlt
  injection ha with ha
  subst ha
  rw [add_none, hc]
  simp [hlt] at hj
  simp [List.getD, hlt, hj]

end Go.Proofs.Ytikolifbljnokaa
