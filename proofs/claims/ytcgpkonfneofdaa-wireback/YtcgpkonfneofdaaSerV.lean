/-
  How long what comes is.
  Conditions: those that each theorem states.
-/
import Derived.Test.YtcgpkonfneofdaaStoreK
import Derived.Test.YtcgpkonfneofdaaStoreL
import Derived.WalkKit
import Derived.WalkSpells
import Derived.WalkLawsBesides
import Derived.Defers
import Derived.Recover
import Derived.ProofKit
import Derived.Deep.RegionHeld
import Derived.Deep.RegionHeld3
import Derived.Deep.RegionLaw
import Derived.Deep.DeepCutAuto
import Derived.Deep.QuietTactic
import Derived.BigQuiet
import Derived.Maps.AppendAt
import Derived.Lib.SliceRun
import Derived.Deep.AppendLies
namespace Go.Proofs.Ytcgpkonfneofdaa
open Go.RowKit

set_option maxRecDepth 100000 in
theorem sEnd_small (s : List Int) (l : List TxA) : (sEnd s l).length ≤ 8 := by
  unfold sEnd
  split
  · rename_i h
    rw [serEnd_len]
    have := (serE_zero h).1
    omega
  · simp
theorem sRes_small (s : List Int) (l : List TxA) : (sRes s l).length ≤ 8 := by
  unfold sRes
  split
  · rename_i h
    rw [serRes_len]
    exact chkL_len (serE_zero h).2
  · simp
theorem serRes_vals : ∀ (l : List TxA) (s : List Int), (∀ x ∈ l, x.rs.length ≤ 4) → ∀ r ∈ serRes s l, r.2.length ≤ 4
  | [], s, _, r, hr => by cases hr
  | x :: t, s, h, r, hr => by
    rcases List.mem_cons.1 hr with rfl | hr
    · show (rdOf s x.rs).length ≤ 4
      rw [rdOf_len]
      exact h x (List.mem_cons_self)
    · exact serRes_vals t _ (fun y hy => h y (List.mem_cons_of_mem _ hy)) r hr
theorem chkL_mem {l : List TxA} (h : chkL l = 0) (x : TxA) (hx : x ∈ l) : chkX x = 0 := by
  obtain ⟨k, hk, rfl⟩ := List.mem_iff_getElem.1 hx
  have := chkL_at h k hk
  simpa [List.getD, hk] using this
theorem chkL_reads {l : List TxA} (h : chkL l = 0) : ∀ x ∈ l, x.rs.length ≤ 4 := fun x hx => by
  have h1 : chkTx x.rs x.gs x.ss = 0 := chkL_mem h x hx
  exact (many_small _ _ _ (chk_parts h1).1).1
theorem sRes_vals (s : List Int) (l : List TxA) : ∀ r ∈ sRes s l, r.2.length ≤ 100 := fun r hr => by
  unfold sRes at hr
  split at hr
  · rename_i h
    have := serRes_vals l s (chkL_reads (serE_zero h).2) r hr
    omega
  · cases hr
end Go.Proofs.Ytcgpkonfneofdaa
