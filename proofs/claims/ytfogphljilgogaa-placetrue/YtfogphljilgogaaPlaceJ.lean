/-
  A plan that came in, opened.
  Conditions: none.
-/
import Derived.Test.YtfogphljilgogaaPlaceH
import Derived.Test.YtfogphljilgogaaStoreC
import Derived.WalkKit
import Derived.WalkSpells
import Derived.WalkLawsBesides
import Derived.ProofKit
import Derived.OpenShut
import Derived.ChangeOld
import Derived.Deep.Slices
import Derived.Deep.Strs
import Derived.Deep.RegionHeld3
import Derived.BigQuiet
import Derived.Lib.SmallJoins
namespace Go.Proofs.Ytfogphljilgogaa
open Go.ChangeShapes Go.WideShapes Go.ChangeAt Go.RowKit Go.Deep


section
variable {H : Type} {enc : TypeId × Value → H} {w : World} {base : Nat} {held : Bool}
set_option maxRecDepth 100000 in
/-- A plan that came in, as the walks are told of it. -/
theorem open_p {b0 : Nat} {v : Value} {d : DataW H} {p : List MemPlace} (hv : Value.okWide Try.prog w .any b0 51 v) (h : DataW.Trod enc Try.prog w base (fun _ => true) held 51 v d p) :
    ∃ (m : Int) (la : Option Addr) (l : List TxA) (lc : Nat), v = .agg #[.int .i64 m, .slice la l.length lc] ∧ IsTxs w la l := by
  obtain ⟨c0, c1, y0, y1, m, rfl, _, _, h0, h1⟩ := Joins.open_agg2 Try.underlying51 (by kernel_rfl) (by kernel_rfl) hv h
  obtain ⟨k, rfl⟩ := int_of h0
  obtain ⟨la, l, lc, rfl, _, _, hl, _⟩ := open_txs h1
  exact ⟨k, la, l, lc, rfl, hl⟩
set_option maxRecDepth 100000 in
theorem open_n {b0 : Nat} {v : Value} {d : DataW H} {p : List MemPlace} (hv : Value.okWide Try.prog w .any b0 3 v) (h : DataW.Trod enc Try.prog w base (fun _ => true) held 3 v d p) :
    ∃ n : Int, v = .int .i64 n ∧ (Lit.int .i64 n).wf = true := by
  obtain ⟨n, rfl, _, _, hw⟩ := open_int Try.underlying3 hv h
  exact ⟨n, rfl, hw⟩
end
end Go.Proofs.Ytfogphljilgogaa
