/-
  The law TxnTrue, walked: of a transaction that has an error, and of one that has none.
  Conditions: the transaction and the values can be read.
-/
import Derived.Test.YtobhbllohafdhaaTxnO
import Derived.WalkKit
import Derived.WalkSpells
import Derived.WalkLawsBesides
import Derived.Defers
import Derived.ProofKit
import Derived.Deep.RegionHeld
import Derived.Deep.RegionHeld3
import Derived.Deep.DeepCutAuto
import Derived.BigQuiet
import Derived.Deep.AppendLies
namespace Go.Proofs.Ytobhbllohafdhaa
open Go.RowKit

theorem allG_snoc (zs : List Int) (gs : List Gd) (g : Gd) : allG zs (gs ++ [g]) = (allG zs gs && gHold zs g) := by
  simp [allG_all]

section
variable {ra ga sa : Option Addr} {rc gc sc : Nat} {rs : List Int} {gs : List Gd} {ss : List St} {g : Gd} {X T : Nat} {V : World}
theorem kp_far {w1 w2 : World} (hc : ∀ p v, p.block < T + 1 → w1.cell? p = some v → w2.cell? p = some v) (hf : ∀ j, w1.frozen? ⟨T, j, none⟩ = false → w2.frozen? ⟨T, j, none⟩ = false) (hB : Below T V w1 → Below T V w2) (hX : X + 1 < T) (hs : w1.cell? ⟨X, 1, none⟩ = some (.slice ga gs.length gc) ∧ w1.cell? ⟨X + 1, 0, none⟩ = some (.int .i64 g.k) ∧ w1.cell? ⟨X + 1, 1, none⟩ = some (.int .i64 g.ak) ∧ w1.cell? ⟨X + 1, 2, none⟩ = some (.int .i64 g.an) ∧ w1.cell? ⟨X + 1, 3, none⟩ = some (.int .i64 g.bk) ∧ w1.cell? ⟨X + 1, 4, none⟩ = some (.int .i64 g.bn) ∧ w1.cell? ⟨T, 0, none⟩ = some (.slice ra rs.length rc) ∧ w1.cell? ⟨T, 2, none⟩ = some (.slice sa ss.length sc) ∧ (∀ j, w1.frozen? ⟨T, j, none⟩ = false) ∧ (∃ u, w1.cell? ⟨T, 1, none⟩ = some u) ∧ Hid (Below T V w1)) : w2.cell? ⟨X, 1, none⟩ = some (.slice ga gs.length gc) ∧ w2.cell? ⟨X + 1, 0, none⟩ = some (.int .i64 g.k) ∧ w2.cell? ⟨X + 1, 1, none⟩ = some (.int .i64 g.ak) ∧ w2.cell? ⟨X + 1, 2, none⟩ = some (.int .i64 g.an) ∧ w2.cell? ⟨X + 1, 3, none⟩ = some (.int .i64 g.bk) ∧ w2.cell? ⟨X + 1, 4, none⟩ = some (.int .i64 g.bn) ∧ w2.cell? ⟨T, 0, none⟩ = some (.slice ra rs.length rc) ∧ w2.cell? ⟨T, 2, none⟩ = some (.slice sa ss.length sc) ∧ (∀ j, w2.frozen? ⟨T, j, none⟩ = false) ∧ (∃ u, w2.cell? ⟨T, 1, none⟩ = some u) ∧ Hid (Below T V w2) := by
  obtain ⟨c1, c2, c3, c4, c5, c6, c7, c9, hfz, ⟨u, hu⟩, hx⟩ := hs
  exact ⟨hc _ _ (by simp; omega) c1, hc _ _ (by simp; omega) c2, hc _ _ (by simp; omega) c3, hc _ _ (by simp; omega) c4, hc _ _ (by simp; omega) c5, hc _ _ (by simp; omega) c6, hc _ _ (by simp) c7, hc _ _ (by simp) c9, fun j => hf j (hfz j), ⟨u, hc _ _ (by simp) hu⟩, hB hx.out⟩
theorem kp_size {w1 : World} (hs : w1.cell? ⟨X, 1, none⟩ = some (.slice ga gs.length gc) ∧ w1.cell? ⟨X + 1, 0, none⟩ = some (.int .i64 g.k) ∧ w1.cell? ⟨X + 1, 1, none⟩ = some (.int .i64 g.ak) ∧ w1.cell? ⟨X + 1, 2, none⟩ = some (.int .i64 g.an) ∧ w1.cell? ⟨X + 1, 3, none⟩ = some (.int .i64 g.bk) ∧ w1.cell? ⟨X + 1, 4, none⟩ = some (.int .i64 g.bn) ∧ w1.cell? ⟨T, 0, none⟩ = some (.slice ra rs.length rc) ∧ w1.cell? ⟨T, 2, none⟩ = some (.slice sa ss.length sc) ∧ (∀ j, w1.frozen? ⟨T, j, none⟩ = false) ∧ (∃ u, w1.cell? ⟨T, 1, none⟩ = some u) ∧ Hid (Below T V w1)) : T + 1 ≤ w1.heap.size := World.block_lt_of_cell? w1 _ hs.2.2.2.2.2.2.1
theorem kp_bel {w1 : World} (hs : w1.cell? ⟨X, 1, none⟩ = some (.slice ga gs.length gc) ∧ w1.cell? ⟨X + 1, 0, none⟩ = some (.int .i64 g.k) ∧ w1.cell? ⟨X + 1, 1, none⟩ = some (.int .i64 g.ak) ∧ w1.cell? ⟨X + 1, 2, none⟩ = some (.int .i64 g.an) ∧ w1.cell? ⟨X + 1, 3, none⟩ = some (.int .i64 g.bk) ∧ w1.cell? ⟨X + 1, 4, none⟩ = some (.int .i64 g.bn) ∧ w1.cell? ⟨T, 0, none⟩ = some (.slice ra rs.length rc) ∧ w1.cell? ⟨T, 2, none⟩ = some (.slice sa ss.length sc) ∧ (∀ j, w1.frozen? ⟨T, j, none⟩ = false) ∧ (∃ u, w1.cell? ⟨T, 1, none⟩ = some u) ∧ Hid (Below T V w1)) : Below T V w1 := hs.2.2.2.2.2.2.2.2.2.2.out
theorem kp_t1 {w1 : World} (hs : w1.cell? ⟨X, 1, none⟩ = some (.slice ga gs.length gc) ∧ w1.cell? ⟨X + 1, 0, none⟩ = some (.int .i64 g.k) ∧ w1.cell? ⟨X + 1, 1, none⟩ = some (.int .i64 g.ak) ∧ w1.cell? ⟨X + 1, 2, none⟩ = some (.int .i64 g.an) ∧ w1.cell? ⟨X + 1, 3, none⟩ = some (.int .i64 g.bk) ∧ w1.cell? ⟨X + 1, 4, none⟩ = some (.int .i64 g.bn) ∧ w1.cell? ⟨T, 0, none⟩ = some (.slice ra rs.length rc) ∧ w1.cell? ⟨T, 2, none⟩ = some (.slice sa ss.length sc) ∧ (∀ j, w1.frozen? ⟨T, j, none⟩ = false) ∧ (∃ u, w1.cell? ⟨T, 1, none⟩ = some u) ∧ Hid (Below T V w1)) : ∃ u, w1.cell? ⟨T, 1, none⟩ = some u := hs.2.2.2.2.2.2.2.2.2.1
theorem kp_below {w1 w2 : World} (hb : Below w1.heap.size w1 w2) (hX : X + 1 < T) (hs : w1.cell? ⟨X, 1, none⟩ = some (.slice ga gs.length gc) ∧ w1.cell? ⟨X + 1, 0, none⟩ = some (.int .i64 g.k) ∧ w1.cell? ⟨X + 1, 1, none⟩ = some (.int .i64 g.ak) ∧ w1.cell? ⟨X + 1, 2, none⟩ = some (.int .i64 g.an) ∧ w1.cell? ⟨X + 1, 3, none⟩ = some (.int .i64 g.bk) ∧ w1.cell? ⟨X + 1, 4, none⟩ = some (.int .i64 g.bn) ∧ w1.cell? ⟨T, 0, none⟩ = some (.slice ra rs.length rc) ∧ w1.cell? ⟨T, 2, none⟩ = some (.slice sa ss.length sc) ∧ (∀ j, w1.frozen? ⟨T, j, none⟩ = false) ∧ (∃ u, w1.cell? ⟨T, 1, none⟩ = some u) ∧ Hid (Below T V w1)) : w2.cell? ⟨X, 1, none⟩ = some (.slice ga gs.length gc) ∧ w2.cell? ⟨X + 1, 0, none⟩ = some (.int .i64 g.k) ∧ w2.cell? ⟨X + 1, 1, none⟩ = some (.int .i64 g.ak) ∧ w2.cell? ⟨X + 1, 2, none⟩ = some (.int .i64 g.an) ∧ w2.cell? ⟨X + 1, 3, none⟩ = some (.int .i64 g.bk) ∧ w2.cell? ⟨X + 1, 4, none⟩ = some (.int .i64 g.bn) ∧ w2.cell? ⟨T, 0, none⟩ = some (.slice ra rs.length rc) ∧ w2.cell? ⟨T, 2, none⟩ = some (.slice sa ss.length sc) ∧ (∀ j, w2.frozen? ⟨T, j, none⟩ = false) ∧ (∃ u, w2.cell? ⟨T, 1, none⟩ = some u) ∧ Hid (Below T V w2) := by
  have hz := kp_size hs
  exact kp_far (fun p v _ h => ext_cell hb h) (fun j h => (hb.frozen (p := ⟨T, j, none⟩) (by show T < _; omega)).trans h) (fun h => h.trans (hb.mono (by omega))) hX hs
theorem kp_grown {w1 w2 : World} {row : Option Nat} (hg : w1.grownBy w2 row) (hlo : ∀ j, row = some j → T + 1 ≤ j) (hX : X + 1 < T) (hs : w1.cell? ⟨X, 1, none⟩ = some (.slice ga gs.length gc) ∧ w1.cell? ⟨X + 1, 0, none⟩ = some (.int .i64 g.k) ∧ w1.cell? ⟨X + 1, 1, none⟩ = some (.int .i64 g.ak) ∧ w1.cell? ⟨X + 1, 2, none⟩ = some (.int .i64 g.an) ∧ w1.cell? ⟨X + 1, 3, none⟩ = some (.int .i64 g.bk) ∧ w1.cell? ⟨X + 1, 4, none⟩ = some (.int .i64 g.bn) ∧ w1.cell? ⟨T, 0, none⟩ = some (.slice ra rs.length rc) ∧ w1.cell? ⟨T, 2, none⟩ = some (.slice sa ss.length sc) ∧ (∀ j, w1.frozen? ⟨T, j, none⟩ = false) ∧ (∃ u, w1.cell? ⟨T, 1, none⟩ = some u) ∧ Hid (Below T V w1)) : w2.cell? ⟨X, 1, none⟩ = some (.slice ga gs.length gc) ∧ w2.cell? ⟨X + 1, 0, none⟩ = some (.int .i64 g.k) ∧ w2.cell? ⟨X + 1, 1, none⟩ = some (.int .i64 g.ak) ∧ w2.cell? ⟨X + 1, 2, none⟩ = some (.int .i64 g.an) ∧ w2.cell? ⟨X + 1, 3, none⟩ = some (.int .i64 g.bk) ∧ w2.cell? ⟨X + 1, 4, none⟩ = some (.int .i64 g.bn) ∧ w2.cell? ⟨T, 0, none⟩ = some (.slice ra rs.length rc) ∧ w2.cell? ⟨T, 2, none⟩ = some (.slice sa ss.length sc) ∧ (∀ j, w2.frozen? ⟨T, j, none⟩ = false) ∧ (∃ u, w2.cell? ⟨T, 1, none⟩ = some u) ∧ Hid (Below T V w2) := by
  have hz := kp_size hs
  have ne : ∀ b, b < T + 1 → some b ≠ row := fun b hb e => by have := hlo b e.symm; omega
  exact kp_far (fun p v hp h => (hg.cell_far p (World.block_lt_of_cell? w1 p h) (ne _ hp)).trans h) (fun j h => (hg.frozen_far ⟨T, j, none⟩ (by show T < _; omega) (ne _ (by simp))).trans h) (fun h => h.grown hg (by omega) (fun j hj => by have := hlo j hj; omega)) hX hs
theorem kp_set {w1 : World} (v : Value) (hX : X + 1 < T) (hs : w1.cell? ⟨X, 1, none⟩ = some (.slice ga gs.length gc) ∧ w1.cell? ⟨X + 1, 0, none⟩ = some (.int .i64 g.k) ∧ w1.cell? ⟨X + 1, 1, none⟩ = some (.int .i64 g.ak) ∧ w1.cell? ⟨X + 1, 2, none⟩ = some (.int .i64 g.an) ∧ w1.cell? ⟨X + 1, 3, none⟩ = some (.int .i64 g.bk) ∧ w1.cell? ⟨X + 1, 4, none⟩ = some (.int .i64 g.bn) ∧ w1.cell? ⟨T, 0, none⟩ = some (.slice ra rs.length rc) ∧ w1.cell? ⟨T, 2, none⟩ = some (.slice sa ss.length sc) ∧ (∀ j, w1.frozen? ⟨T, j, none⟩ = false) ∧ (∃ u, w1.cell? ⟨T, 1, none⟩ = some u) ∧ Hid (Below T V w1)) : (w1.setCell ⟨T, 1, none⟩ v).cell? ⟨X, 1, none⟩ = some (.slice ga gs.length gc) ∧ (w1.setCell ⟨T, 1, none⟩ v).cell? ⟨X + 1, 0, none⟩ = some (.int .i64 g.k) ∧ (w1.setCell ⟨T, 1, none⟩ v).cell? ⟨X + 1, 1, none⟩ = some (.int .i64 g.ak) ∧ (w1.setCell ⟨T, 1, none⟩ v).cell? ⟨X + 1, 2, none⟩ = some (.int .i64 g.an) ∧ (w1.setCell ⟨T, 1, none⟩ v).cell? ⟨X + 1, 3, none⟩ = some (.int .i64 g.bk) ∧ (w1.setCell ⟨T, 1, none⟩ v).cell? ⟨X + 1, 4, none⟩ = some (.int .i64 g.bn) ∧ (w1.setCell ⟨T, 1, none⟩ v).cell? ⟨T, 0, none⟩ = some (.slice ra rs.length rc) ∧ (w1.setCell ⟨T, 1, none⟩ v).cell? ⟨T, 2, none⟩ = some (.slice sa ss.length sc) ∧ (∀ j, (w1.setCell ⟨T, 1, none⟩ v).frozen? ⟨T, j, none⟩ = false) ∧ (∃ u, (w1.setCell ⟨T, 1, none⟩ v).cell? ⟨T, 1, none⟩ = some u) ∧ Hid (Below T V (w1.setCell ⟨T, 1, none⟩ v)) := by
  obtain ⟨c1, c2, c3, c4, c5, c6, c7, c9, hfz, ⟨u, hu⟩, hx⟩ := hs
  have far : ∀ b j, b < T → (w1.setCell ⟨T, 1, none⟩ v).cell? ⟨b, j, none⟩ = w1.cell? ⟨b, j, none⟩ := fun b j h => World.cell?_setCell_far _ _ _ _ (by simp; omega)
  exact ⟨(far _ _ (by omega)).trans c1, (far _ _ (by omega)).trans c2, (far _ _ (by omega)).trans c3, (far _ _ (by omega)).trans c4, (far _ _ (by omega)).trans c5, (far _ _ (by omega)).trans c6, by simp [go_sem, c7], by simp [go_sem, c9], fun j => by simp [go_sem, hfz], ⟨v, by simp [go_sem, hu]⟩, hx.out.setCell (Nat.le_refl _) _⟩
theorem IsGs.set {w : World} {a : Option Addr} {l : List Gd} (h : IsGs w a l) (p : Addr) (v : Value) (hp : ∀ ad, a = some ad → p.block ≠ ad.block) : IsGs (w.setCell p v) a l := by
  intro i hi
  obtain ⟨b, off, ha, hlt, h0, h1, h2, h3, h4⟩ := h i hi
  have hne : p.block ≠ b := hp _ ha
  have far : ∀ j, (w.setCell p v).cell? ⟨b, j, none⟩ = w.cell? ⟨b, j, none⟩ := fun j => World.cell?_setCell_far _ _ _ _ hne
  refine ⟨b, off, ha, by simpa using hlt, ?_, ?_, ?_, ?_, ?_⟩ <;> (rw [far]; assumption)
theorem cut_end {w2 : World} {na : Option Addr} {nc n m : Nat} {u : Value} {l : List Value} (ho : w2.ownsRow (T + 1) 58 5 (.slice na n nc) m l) (hg : IsGs w2 na (gs ++ [g])) (hu : w2.cell? ⟨T, 1, none⟩ = some u) (hs : (w2.setCell ⟨T, 1, none⟩ (.slice na (gs.length + 1) nc)).cell? ⟨X, 1, none⟩ = some (.slice ga gs.length gc) ∧ (w2.setCell ⟨T, 1, none⟩ (.slice na (gs.length + 1) nc)).cell? ⟨X + 1, 0, none⟩ = some (.int .i64 g.k) ∧ (w2.setCell ⟨T, 1, none⟩ (.slice na (gs.length + 1) nc)).cell? ⟨X + 1, 1, none⟩ = some (.int .i64 g.ak) ∧ (w2.setCell ⟨T, 1, none⟩ (.slice na (gs.length + 1) nc)).cell? ⟨X + 1, 2, none⟩ = some (.int .i64 g.an) ∧ (w2.setCell ⟨T, 1, none⟩ (.slice na (gs.length + 1) nc)).cell? ⟨X + 1, 3, none⟩ = some (.int .i64 g.bk) ∧ (w2.setCell ⟨T, 1, none⟩ (.slice na (gs.length + 1) nc)).cell? ⟨X + 1, 4, none⟩ = some (.int .i64 g.bn) ∧ (w2.setCell ⟨T, 1, none⟩ (.slice na (gs.length + 1) nc)).cell? ⟨T, 0, none⟩ = some (.slice ra rs.length rc) ∧ (w2.setCell ⟨T, 1, none⟩ (.slice na (gs.length + 1) nc)).cell? ⟨T, 2, none⟩ = some (.slice sa ss.length sc) ∧ (∀ j, (w2.setCell ⟨T, 1, none⟩ (.slice na (gs.length + 1) nc)).frozen? ⟨T, j, none⟩ = false) ∧ (∃ u, (w2.setCell ⟨T, 1, none⟩ (.slice na (gs.length + 1) nc)).cell? ⟨T, 1, none⟩ = some u) ∧ Hid (Below T V (w2.setCell ⟨T, 1, none⟩ (.slice na (gs.length + 1) nc)))) :
    ∃ na' nc', (w2.setCell ⟨T, 1, none⟩ (.slice na (gs.length + 1) nc)).cell? ⟨T, 0, none⟩ = some (.slice ra rs.length rc) ∧ (w2.setCell ⟨T, 1, none⟩ (.slice na (gs.length + 1) nc)).cell? ⟨T, 1, none⟩ = some (.slice na' (gs ++ [g]).length nc') ∧ (w2.setCell ⟨T, 1, none⟩ (.slice na (gs.length + 1) nc)).cell? ⟨T, 2, none⟩ = some (.slice sa ss.length sc) ∧ IsGs (w2.setCell ⟨T, 1, none⟩ (.slice na (gs.length + 1) nc)) na' (gs ++ [g]) ∧ Below T V (w2.setCell ⟨T, 1, none⟩ (.slice na (gs.length + 1) nc)) := by
  obtain ⟨_, _, _, _, _, _, c7, c9, _, _, hx⟩ := hs
  refine ⟨na, nc, c7, by simp [go_sem, hu], c9, hg.set _ _ (fun ad had => ?_), hx.out⟩
  subst had
  have := (ho.lt ad.block rfl).1
  simp
  omega
end
variable (ra ga sa : Option Addr) (rc gc sc : Nat) (rs : List Int) (gs : List Gd) (ss : List St) (za : Option Addr) (zc : Nat) (zs : List Int) (g : Gd)

set_option maxRecDepth 100000 in
set_option maxHeartbeats 2000000 in
theorem txnTrue_bad (w : World) (ht : IsTx w ra ga sa rs gs ss) (hz : IsInts w za zs) (hn : za = none → zc = 0) (hE : ¬ runE rs gs ss zs = 0) :
    Calls Try.prog 8 #[.agg #[.slice ra rs.length rc, .slice ga gs.length gc, .slice sa ss.length sc], .slice za zs.length zc, .agg #[.int .i64 g.k, .int .i64 g.ak, .int .i64 g.an, .int .i64 g.bk, .int .i64 g.bn]] w fun e w' => e = .returned (.bool true) ∧ Below w.heap.size w w' := by
  have e1 : Hid (runD rs gs ss zs = false) := if_neg hE
  have e2 : Hid (runV rs gs ss zs = []) := if_neg hE
  have e3 : Hid (runM rs gs ss zs = []) := if_neg hE
  have heb : (runE rs gs ss zs != 0) = true := by simpa using hE
  have HT : Hid (IsTx w ra ga sa rs gs ss) := ht
  have HZ : Hid (IsInts w za zs) := hz
  have HN : Hid (za = none → zc = 0) := hn
  clear ht hz hn hE
  go_enter Try.func8, Try.ntmps8
  go_wp2_with fail
  refine (txnRun_any ra ga sa rc gc sc rs gs ss za zc zs _ (HT.out.below (grow_alloc (grow_alloc (Below.refl _ _) _) _)) (HZ.out.below (grow_alloc (grow_alloc (Below.refl _ _) _) _)) HN.out).mono ?_
  rintro e w1 ⟨va, vc, ma, mc, rfl, hva, hma, hb1⟩
  rw [e1.out, e2.out, e3.out]
  have B1 : Below w.heap.size w w1 := grow_trans (grow_alloc (grow_alloc (Below.refl _ _) _) _) hb1
  clear hva hma hb1
  generalize runE rs gs ss zs = E at *
  go_wp2_with fail
  refine (txnBegun_any _).mono ?_
  rintro e w5 ⟨rfl, hb5⟩
  have B5 := grow_trans (grow_alloc B1 _) hb5
  go_wp2
  go_ret
  exact ⟨by simp, B5⟩

set_option maxRecDepth 100000 in
set_option maxHeartbeats 4000000 in
theorem txnTrue_T0 (w : World) (ht : IsTx w ra ga sa rs gs ss) (hz : IsInts w za zs) (hzl : zs.length ≤ maxLen) (hn : za = none → zc = 0) (hE : runE rs gs ss zs = 0) (hD : allG zs gs = true) (hg0 : gs.length = 0) :
    Calls Try.prog 8 #[.agg #[.slice ra rs.length rc, .slice ga gs.length gc, .slice sa ss.length sc], .slice za zs.length zc, .agg #[.int .i64 g.k, .int .i64 g.ak, .int .i64 g.an, .int .i64 g.bk, .int .i64 g.bn]] w fun e w' => e = .returned (.bool true) ∧ Below w.heap.size w w' := by
  obtain ⟨hC, hL⟩ := runE_zero hE
  obtain ⟨hm, _, hgg, hss⟩ := chk_parts hC
  obtain ⟨h4, hg2, h3, hs1⟩ := many_small _ _ _ hm
  have e1 : Hid (runD rs gs ss zs = true) := (if_pos hE).trans hD
  have e2 : Hid (runV rs gs ss zs = zs) := if_pos hE
  have e3 : Hid (runM rs gs ss zs = (allS zs ss)) := (if_pos hE).trans (by unfold madeOf; rw [hD]; rfl)
  have e4 : Hid (runE rs gs ss zs = 0) := hE
  have hal : Hid ((allS zs ss).length = ss.length) := by simp [allS, Hid]
  have HD : Hid (allG zs gs = true) := hD
  have hsb : ((ss.length : Int) != 0) = true := by rw [bne_iff_ne]; omega
  have hgb : ((gs.length : Int) == 0) = true := by rw [beq_iff_eq]; omega
  have h4' : zs.length ≤ 4 := by omega
  clear hE hC hL hm hgg hss h4 hD hg0
  have HT : Hid (IsTx w ra ga sa rs gs ss) := ht
  have HZ : Hid (IsInts w za zs) := hz
  have HN : Hid (za = none → zc = 0) := hn
  have hzl' : Hid (zs.length ≤ maxLen) := hzl
  clear ht hz hn hzl
  go_enter Try.func8, Try.ntmps8
  go_wp2_with fail
  have U0 : Below w.heap.size w ((w.alloc (.cells #[.slice ra rs.length rc, .slice ga gs.length gc, .slice sa ss.length sc] 40)).alloc (.cells #[.int .i64 g.k, .int .i64 g.ak, .int .i64 g.an, .int .i64 g.bk, .int .i64 g.bn] 58)) := grow_alloc (grow_alloc (Below.refl _ _) _) _
  refine (txnRun_any ra ga sa rc gc sc rs gs ss za zc zs _ (HT.out.below U0) (HZ.out.below U0) HN.out).mono ?_
  rintro e w1 ⟨va, vc, ma, mc, rfl, hva, hma, hb1⟩
  rw [e1.out, e2.out, e3.out, e4.out]
  rw [e2.out] at hva
  rw [e3.out] at hma
  have hv := hva.ints (Nat.le_refl _)
  have hm := hma.ints (Nat.le_refl _)
  have x0 : w1.cell? ⟨w.heap.size, 0, none⟩ = some (.slice ra rs.length rc) := ext_cell hb1 (by simp)
  have x1 : w1.cell? ⟨w.heap.size, 1, none⟩ = some (.slice ga gs.length gc) := ext_cell hb1 (by simp)
  have x2 : w1.cell? ⟨w.heap.size, 2, none⟩ = some (.slice sa ss.length sc) := ext_cell hb1 (by simp)
  have x3 : w1.cell? ⟨w.heap.size + 1, 0, none⟩ = some (.int .i64 g.k) := ext_cell hb1 (by simp)
  have x4 : w1.cell? ⟨w.heap.size + 1, 1, none⟩ = some (.int .i64 g.ak) := ext_cell hb1 (by simp)
  have x5 : w1.cell? ⟨w.heap.size + 1, 2, none⟩ = some (.int .i64 g.an) := ext_cell hb1 (by simp)
  have x6 : w1.cell? ⟨w.heap.size + 1, 3, none⟩ = some (.int .i64 g.bk) := ext_cell hb1 (by simp)
  have x7 : w1.cell? ⟨w.heap.size + 1, 4, none⟩ = some (.int .i64 g.bn) := ext_cell hb1 (by simp)
  have B1 : Below w.heap.size w w1 := grow_trans U0 hb1
  have U1 : Below w1.heap.size w1 (w1.alloc (.cells #[.bool true, .slice va zs.length vc] 50)) := grow_alloc (Below.refl _ _) _
  have y0 := ext_cell U1 x0
  have y1 := ext_cell U1 x1
  have y2 := ext_cell U1 x2
  have y3 := ext_cell U1 x3
  have y4 := ext_cell U1 x4
  have y5 := ext_cell U1 x5
  have y6 := ext_cell U1 x6
  have y7 := ext_cell U1 x7
  have r0 : (w1.alloc (.cells #[.bool true, .slice va zs.length vc] 50)).cell? ⟨w1.heap.size, 0, none⟩ = some (.bool true) := by simp
  have r1 : (w1.alloc (.cells #[.bool true, .slice va zs.length vc] 50)).cell? ⟨w1.heap.size, 1, none⟩ = some (.slice va zs.length vc) := by simp
  have hv1 := hv.below U1
  have hm1 : Hid (IsInts _ ma (allS zs ss)) := hm.below U1
  have B2 := grow_trans B1 U1
  rw [hal.out]
  clear hva hma hb1 hv hm x0 x1 x2 x3 x4 x5 x6 x7 U0 U1 B1
  obtain ⟨R, hR⟩ : ∃ R, R = w1.heap.size := ⟨_, rfl⟩
  generalize hW : (w1.alloc (.cells #[.bool true, .slice va zs.length vc] 50)) = W at *
  go_wp2_with fail
  refine (sameInts_any zs zs va za vc zc _ hzl'.out hv1 (HZ.out.below B2)).mono ?_
  rintro e w5 ⟨rfl, hb5⟩
  have hsame : decide (zs = zs) = true := by simp
  rw [hsame]
  have z0 := ext_cell hb5 y0
  have z1 := ext_cell hb5 y1
  have z2 := ext_cell hb5 y2
  have z3 := ext_cell hb5 y3
  have z4 := ext_cell hb5 y4
  have z5 := ext_cell hb5 y5
  have z6 := ext_cell hb5 y6
  have z7 := ext_cell hb5 y7
  rw [← hR] at r0 r1
  have s0 := ext_cell hb5 r0
  have s1 := ext_cell hb5 r1
  have hm5 : Hid (IsInts w5 ma (allS zs ss)) := hm1.out.below hb5
  have B5 : Hid (Below w.heap.size w w5) := grow_trans B2 hb5
  clear y0 y1 y2 y3 y4 y5 y6 y7 r0 r1 hv1 hm1 B2 hb5 hW
  rw [← hR]
  clear hR
  go_upto_region 7 with fail
  clear hsb hgb
  have UV : Below w5.heap.size w5 (w5.alloc (.cells #[.slice ra rs.length rc, .slice ga gs.length gc, .slice sa ss.length sc] 40)) := grow_alloc (Below.refl _ _) _
  have hXT : w.heap.size + 1 < w5.heap.size := by have := World.block_lt_of_cell? w5 _ z3; simpa using this
  have HS0 : Hid ((w5.alloc (.cells #[.slice ra rs.length rc, .slice ga gs.length gc, .slice sa ss.length sc] 40)).cell? ⟨w.heap.size, 1, none⟩ = some (.slice ga gs.length gc) ∧ (w5.alloc (.cells #[.slice ra rs.length rc, .slice ga gs.length gc, .slice sa ss.length sc] 40)).cell? ⟨w.heap.size + 1, 0, none⟩ = some (.int .i64 g.k) ∧ (w5.alloc (.cells #[.slice ra rs.length rc, .slice ga gs.length gc, .slice sa ss.length sc] 40)).cell? ⟨w.heap.size + 1, 1, none⟩ = some (.int .i64 g.ak) ∧ (w5.alloc (.cells #[.slice ra rs.length rc, .slice ga gs.length gc, .slice sa ss.length sc] 40)).cell? ⟨w.heap.size + 1, 2, none⟩ = some (.int .i64 g.an) ∧ (w5.alloc (.cells #[.slice ra rs.length rc, .slice ga gs.length gc, .slice sa ss.length sc] 40)).cell? ⟨w.heap.size + 1, 3, none⟩ = some (.int .i64 g.bk) ∧ (w5.alloc (.cells #[.slice ra rs.length rc, .slice ga gs.length gc, .slice sa ss.length sc] 40)).cell? ⟨w.heap.size + 1, 4, none⟩ = some (.int .i64 g.bn) ∧ (w5.alloc (.cells #[.slice ra rs.length rc, .slice ga gs.length gc, .slice sa ss.length sc] 40)).cell? ⟨w5.heap.size, 0, none⟩ = some (.slice ra rs.length rc) ∧ (w5.alloc (.cells #[.slice ra rs.length rc, .slice ga gs.length gc, .slice sa ss.length sc] 40)).cell? ⟨w5.heap.size, 2, none⟩ = some (.slice sa ss.length sc) ∧ (∀ j, (w5.alloc (.cells #[.slice ra rs.length rc, .slice ga gs.length gc, .slice sa ss.length sc] 40)).frozen? ⟨w5.heap.size, j, none⟩ = false) ∧ (∃ u, (w5.alloc (.cells #[.slice ra rs.length rc, .slice ga gs.length gc, .slice sa ss.length sc] 40)).cell? ⟨w5.heap.size, 1, none⟩ = some u) ∧ Hid (Below w5.heap.size w5 (w5.alloc (.cells #[.slice ra rs.length rc, .slice ga gs.length gc, .slice sa ss.length sc] 40)))) := ⟨ext_cell UV z1, ext_cell UV z3, ext_cell UV z4, ext_cell UV z5, ext_cell UV z6, ext_cell UV z7, by simp, by simp, fun j => by simp, ⟨.slice ga gs.length gc, by simp⟩, UV⟩
  have hVB : (w5.alloc (.cells #[.slice ra rs.length rc, .slice ga gs.length gc, .slice sa ss.length sc] 40)).heap.size = w5.heap.size + 1 := by simp
  have HG : Hid (IsGs w5 ga gs) := HT.out.g.below B5.out
  have UVh : Hid (Below w5.heap.size w5 (w5.alloc (.cells #[.slice ra rs.length rc, .slice ga gs.length gc, .slice sa ss.length sc] 40))) := UV
  clear UV
  generalize (w5.alloc (.cells #[.slice ra rs.length rc, .slice ga gs.length gc, .slice sa ss.length sc] 40)) = V at *
  go_cut [] (fun wx => ∃ na nc, wx.cell? ⟨w5.heap.size, 0, none⟩ = some (.slice ra rs.length rc) ∧ wx.cell? ⟨w5.heap.size, 1, none⟩ = some (.slice na (gs ++ [g]).length nc) ∧ wx.cell? ⟨w5.heap.size, 2, none⟩ = some (.slice sa ss.length sc) ∧ IsGs wx na (gs ++ [g]) ∧ Below w5.heap.size w5 wx)
  case first =>
    clear z0 z1 z2 z3 z4 z5 z6 z7 s0 s1
    go_region_held3 (fun w' => w'.cell? ⟨w.heap.size, 1, none⟩ = some (.slice ga gs.length gc) ∧ w'.cell? ⟨w.heap.size + 1, 0, none⟩ = some (.int .i64 g.k) ∧ w'.cell? ⟨w.heap.size + 1, 1, none⟩ = some (.int .i64 g.ak) ∧ w'.cell? ⟨w.heap.size + 1, 2, none⟩ = some (.int .i64 g.an) ∧ w'.cell? ⟨w.heap.size + 1, 3, none⟩ = some (.int .i64 g.bk) ∧ w'.cell? ⟨w.heap.size + 1, 4, none⟩ = some (.int .i64 g.bn) ∧ w'.cell? ⟨w5.heap.size, 0, none⟩ = some (.slice ra rs.length rc) ∧ w'.cell? ⟨w5.heap.size, 2, none⟩ = some (.slice sa ss.length sc) ∧ (∀ j, w'.frozen? ⟨w5.heap.size, j, none⟩ = false) ∧ (∃ u, w'.cell? ⟨w5.heap.size, 1, none⟩ = some u) ∧ Hid (Below w5.heap.size w5 w')) ((first | exact kp_below (grow_drew (Below.refl _ _)) hXT HS0.out | exact kp_set _ hXT (by assumption) | exact kp_grown hgrow2 hlo2 hXT (by assumption) | exact kp_grown hgrow hlo hXT (by assumption) | exact kp_below (grow_alloc (Below.refl _ _) _) hXT (by assumption) | exact kp_below (grow_drew (Below.refl _ _)) hXT (by assumption)))
      (first
        | (refine step_append_gs (by rfl) _ _ (by rfl) (w5.heap.size + 1) (.slice (some ⟨_, 0, none⟩) 0 0) [] (by rfl) ?_ ga gs gc (by rfl) ?_ (by simp; omega) ?_ ?_;
           (repeat (first | exact own_empty5 _ _ _ (by first | rfl | omega | (simp; done) | (simp; omega)) (by first | exact Nat.le_refl _ | omega | (simp; done) | (simp; omega)) | refine owns_below ?_ (grow_drew (Below.refl _ _)) | refine owns_below ?_ (grow_alloc (Below.refl _ _) _))); (exact HG.out.below (by repeat (first | exact UVh.out | refine grow_drew ?_ | refine grow_alloc ?_ _))); (first | omega | (simp; done) | (simp; omega));
           (intro v' w1' hown' hgrow hlo hsz1; have ho : Hid (w1'.ownsRow (w5.heap.size + 1) 58 5 v' gs.length (flat gs)) := hown'))
        | (refine step_append_gs (by rfl) _ _ (by rfl) (w5.heap.size + 1) v' gs (by rfl) ?_ (some ⟨_, 0, none⟩) [g] 1 (by rfl) ?_ (by simp; omega) ?_ ?_;
           (repeat (first | exact ho.out | refine owns_below ?_ (grow_drew (Below.refl _ _)) | refine owns_below ?_ (grow_alloc (Below.refl _ _) _))); (repeat (first | exact isGs_one _ _ _ _ _ _ _ (by first | rfl | omega | (simp; done) | (simp; omega)) | refine IsGs.below ?_ (grow_drew (Below.refl _ _)) | refine IsGs.below ?_ (grow_alloc (Below.refl _ _) _) | refine IsGs.grown ?_ hgrow (by intro ad had; injection had with had; subst had; first | (simp [Value.ownBlock]; done) | (simp [Value.ownBlock]; omega)))); (first | omega | (simp; done) | (simp; omega));
           (intro v2 w2 hown2 hgrow2 hlo2 hsz2; obtain ⟨u1, hu1⟩ := kp_t1 (kp_grown hgrow2 hlo2 hXT (by assumption)); obtain ⟨na, nc, rfl, hgs2⟩ := gs_of_owns hown2)))
    all_goals (go_wp2_with fail; go_meet; exact cut_end hown2 hgs2 hu1 (by assumption))
  case rest =>
    obtain ⟨na, nc, n0, n1, n2, hgn, hbn⟩ := hcut
    have s0' := ext_cell hbn s0
    have hm6 : Hid (IsInts wc ma (allS zs ss)) := hm5.out.below hbn
    have B6 : Below w.heap.size w wc := grow_trans B5.out hbn
    have HTn : IsTx wc ra na sa rs (gs ++ [g]) ss := ⟨(HT.out.below B6).r, hgn, (HT.out.below B6).s, HT.out.lr, by simp; unfold maxLen; omega, HT.out.ls⟩
    have hsn : Hid (allG zs (gs ++ [g]) = (true && gHold zs g)) := by show _ = _; rw [allG_snoc, HD.out]
    clear z0 z1 z2 z3 z4 z5 z6 z7 s0 s1 hm5 B5 hbn hgn HS0 hVB HG UVh hXT
    generalize gs ++ [g] = gs2 at *
    go_wp2_with fail
    refine (txnRun_any ra na sa rc nc sc rs gs2 ss za zc zs _ HTn (HZ.out.below B6) HN.out).mono ?_
    rintro e w6 ⟨va2, vc2, ma2, mc2, rfl, hva2, hma2, hb6⟩
    have t0 := ext_cell hb6 s0'
    have hl7 := hm6.out.below hb6
    have B7 := grow_trans B6 hb6
    clear n0 n1 n2 s0' hm6 B6 hb6 HTn
    by_cases hE2 : runE rs gs2 ss zs = 0
    · by_cases hD2 : allG zs gs2 = true
      · have f1 : runD rs gs2 ss zs = true := (if_pos hE2).trans hD2
        have f2 : runV rs gs2 ss zs = zs := if_pos hE2
        have f3 : runM rs gs2 ss zs = (allS zs ss) := (if_pos hE2).trans (by unfold madeOf; rw [hD2]; rfl)
        rw [f1, f2, f3, hE2]
        rw [f3] at hma2
        have hm2 := hma2.ints (Nat.le_refl _)
        rw [hal.out]
        clear f1 f2 f3 hE2 hD2 hva2 hma2
        go_wp2_with fail
        refine (txnBegun_any _).mono ?_
        rintro e w8 ⟨rfl, hb8⟩
        have v0 : w8.cell? ⟨w6.heap.size, 0, none⟩ = some (.bool true) := ext_cell hb8 (by simp)
        have v1 := ext_cell (grow_trans (grow_alloc (Below.refl _ _) _) hb8) t0
        have B8 := grow_trans (grow_alloc B7 _) hb8
        have q1 := hm2.below (grow_trans (grow_alloc (Below.refl _ _) _) hb8)
        have q2 := hl7.below (grow_trans (grow_alloc (Below.refl _ _) _) hb8)
        have hsm := sameInts_any (allS zs ss) (allS zs ss) ma2 ma mc2 mc w8 (by rw [hal.out]; unfold maxLen; omega) q1 q2
        rw [hal.out] at hsm
        clear hb8 t0 hm2 hl7
        go_wp2_with fail
        refine hsm.mono ?_
        rintro e w9 ⟨rfl, hb9⟩
        have B9 := grow_trans B8 hb9
        go_wp2
        go_ret
        exact ⟨by simp, B9⟩
      · replace hD2 : allG zs gs2 = false := by simpa using hD2
        have f1 : runD rs gs2 ss zs = false := (if_pos hE2).trans hD2
        have f2 : runV rs gs2 ss zs = zs := if_pos hE2
        have f3 : runM rs gs2 ss zs = ([] : List Int) := (if_pos hE2).trans (by unfold madeOf; rw [hD2]; rfl)
        rw [f1, f2, f3, hE2]
        rw [f3] at hma2
        clear f1 f2 f3 hE2 hD2 hva2 hma2
        go_wp2_with fail
        refine (txnBegun_any _).mono ?_
        rintro e w8 ⟨rfl, hb8⟩
        have v0 : w8.cell? ⟨w6.heap.size, 0, none⟩ = some (.bool false) := ext_cell hb8 (by simp)
        have v1 := ext_cell (grow_trans (grow_alloc (Below.refl _ _) _) hb8) t0
        have B8 := grow_trans (grow_alloc B7 _) hb8
        clear hb8 t0 hl7
        go_wp2
        go_ret
        exact ⟨by simp, B8⟩
    · have f1 : runD rs gs2 ss zs = false := if_neg hE2
      have f2 : runV rs gs2 ss zs = ([] : List Int) := if_neg hE2
      have f3 : runM rs gs2 ss zs = ([] : List Int) := if_neg hE2
      rw [f1, f2, f3]
      rw [f3] at hma2
      have heb : (runE rs gs2 ss zs != 0) = true := by rw [bne_iff_ne]; exact hE2
      clear f1 f2 f3 hE2 hva2 hma2
      generalize runE rs gs2 ss zs = E2 at *
      go_wp2_with fail
      refine (txnBegun_any _).mono ?_
      rintro e w8 ⟨rfl, hb8⟩
      have v0 : w8.cell? ⟨w6.heap.size, 0, none⟩ = some (.bool false) := ext_cell hb8 (by simp)
      have v1 := ext_cell (grow_trans (grow_alloc (Below.refl _ _) _) hb8) t0
      have B8 := grow_trans (grow_alloc B7 _) hb8
      clear hb8 t0 hl7
      go_wp2
      go_ret
      exact ⟨by simp, B8⟩

set_option maxRecDepth 100000 in
set_option maxHeartbeats 4000000 in
theorem txnTrue_Tn (w : World) (ht : IsTx w ra ga sa rs gs ss) (hz : IsInts w za zs) (hzl : zs.length ≤ maxLen) (hn : za = none → zc = 0) (hE : runE rs gs ss zs = 0) (hD : allG zs gs = true) (hg0 : 0 < gs.length) :
    Calls Try.prog 8 #[.agg #[.slice ra rs.length rc, .slice ga gs.length gc, .slice sa ss.length sc], .slice za zs.length zc, .agg #[.int .i64 g.k, .int .i64 g.ak, .int .i64 g.an, .int .i64 g.bk, .int .i64 g.bn]] w fun e w' => e = .returned (.bool true) ∧ Below w.heap.size w w' := by
  obtain ⟨hC, hL⟩ := runE_zero hE
  obtain ⟨hm, _, hgg, hss⟩ := chk_parts hC
  obtain ⟨h4, hg2, h3, hs1⟩ := many_small _ _ _ hm
  have e1 : Hid (runD rs gs ss zs = true) := (if_pos hE).trans hD
  have e2 : Hid (runV rs gs ss zs = zs) := if_pos hE
  have e3 : Hid (runM rs gs ss zs = (allS zs ss)) := (if_pos hE).trans (by unfold madeOf; rw [hD]; rfl)
  have e4 : Hid (runE rs gs ss zs = 0) := hE
  have hal : Hid ((allS zs ss).length = ss.length) := by simp [allS, Hid]
  have HD : Hid (allG zs gs = true) := hD
  have hsb : ((ss.length : Int) != 0) = true := by rw [bne_iff_ne]; omega
  have hgb : ((gs.length : Int) == 0) = false := by rw [beq_eq_false_iff_ne]; omega
  have h4' : zs.length ≤ 4 := by omega
  clear hE hC hL hm hgg hss h4 hD hg0
  have HT : Hid (IsTx w ra ga sa rs gs ss) := ht
  have HZ : Hid (IsInts w za zs) := hz
  have HN : Hid (za = none → zc = 0) := hn
  have hzl' : Hid (zs.length ≤ maxLen) := hzl
  clear ht hz hn hzl
  go_enter Try.func8, Try.ntmps8
  go_wp2_with fail
  have U0 : Below w.heap.size w ((w.alloc (.cells #[.slice ra rs.length rc, .slice ga gs.length gc, .slice sa ss.length sc] 40)).alloc (.cells #[.int .i64 g.k, .int .i64 g.ak, .int .i64 g.an, .int .i64 g.bk, .int .i64 g.bn] 58)) := grow_alloc (grow_alloc (Below.refl _ _) _) _
  refine (txnRun_any ra ga sa rc gc sc rs gs ss za zc zs _ (HT.out.below U0) (HZ.out.below U0) HN.out).mono ?_
  rintro e w1 ⟨va, vc, ma, mc, rfl, hva, hma, hb1⟩
  rw [e1.out, e2.out, e3.out, e4.out]
  rw [e2.out] at hva
  rw [e3.out] at hma
  have hv := hva.ints (Nat.le_refl _)
  have hm := hma.ints (Nat.le_refl _)
  have x0 : w1.cell? ⟨w.heap.size, 0, none⟩ = some (.slice ra rs.length rc) := ext_cell hb1 (by simp)
  have x1 : w1.cell? ⟨w.heap.size, 1, none⟩ = some (.slice ga gs.length gc) := ext_cell hb1 (by simp)
  have x2 : w1.cell? ⟨w.heap.size, 2, none⟩ = some (.slice sa ss.length sc) := ext_cell hb1 (by simp)
  have x3 : w1.cell? ⟨w.heap.size + 1, 0, none⟩ = some (.int .i64 g.k) := ext_cell hb1 (by simp)
  have x4 : w1.cell? ⟨w.heap.size + 1, 1, none⟩ = some (.int .i64 g.ak) := ext_cell hb1 (by simp)
  have x5 : w1.cell? ⟨w.heap.size + 1, 2, none⟩ = some (.int .i64 g.an) := ext_cell hb1 (by simp)
  have x6 : w1.cell? ⟨w.heap.size + 1, 3, none⟩ = some (.int .i64 g.bk) := ext_cell hb1 (by simp)
  have x7 : w1.cell? ⟨w.heap.size + 1, 4, none⟩ = some (.int .i64 g.bn) := ext_cell hb1 (by simp)
  have B1 : Below w.heap.size w w1 := grow_trans U0 hb1
  have U1 : Below w1.heap.size w1 (w1.alloc (.cells #[.bool true, .slice va zs.length vc] 50)) := grow_alloc (Below.refl _ _) _
  have y0 := ext_cell U1 x0
  have y1 := ext_cell U1 x1
  have y2 := ext_cell U1 x2
  have y3 := ext_cell U1 x3
  have y4 := ext_cell U1 x4
  have y5 := ext_cell U1 x5
  have y6 := ext_cell U1 x6
  have y7 := ext_cell U1 x7
  have r0 : (w1.alloc (.cells #[.bool true, .slice va zs.length vc] 50)).cell? ⟨w1.heap.size, 0, none⟩ = some (.bool true) := by simp
  have r1 : (w1.alloc (.cells #[.bool true, .slice va zs.length vc] 50)).cell? ⟨w1.heap.size, 1, none⟩ = some (.slice va zs.length vc) := by simp
  have hv1 := hv.below U1
  have hm1 : Hid (IsInts _ ma (allS zs ss)) := hm.below U1
  have B2 := grow_trans B1 U1
  rw [hal.out]
  clear hva hma hb1 hv hm x0 x1 x2 x3 x4 x5 x6 x7 U0 U1 B1
  obtain ⟨R, hR⟩ : ∃ R, R = w1.heap.size := ⟨_, rfl⟩
  generalize hW : (w1.alloc (.cells #[.bool true, .slice va zs.length vc] 50)) = W at *
  go_wp2_with fail
  refine (sameInts_any zs zs va za vc zc _ hzl'.out hv1 (HZ.out.below B2)).mono ?_
  rintro e w5 ⟨rfl, hb5⟩
  have hsame : decide (zs = zs) = true := by simp
  rw [hsame]
  have z0 := ext_cell hb5 y0
  have z1 := ext_cell hb5 y1
  have z2 := ext_cell hb5 y2
  have z3 := ext_cell hb5 y3
  have z4 := ext_cell hb5 y4
  have z5 := ext_cell hb5 y5
  have z6 := ext_cell hb5 y6
  have z7 := ext_cell hb5 y7
  rw [← hR] at r0 r1
  have s0 := ext_cell hb5 r0
  have s1 := ext_cell hb5 r1
  have hm5 : Hid (IsInts w5 ma (allS zs ss)) := hm1.out.below hb5
  have B5 : Hid (Below w.heap.size w w5) := grow_trans B2 hb5
  clear y0 y1 y2 y3 y4 y5 y6 y7 r0 r1 hv1 hm1 B2 hb5 hW
  rw [← hR]
  clear hR
  go_upto_region 7 with fail
  clear hsb hgb
  have UV : Below w5.heap.size w5 (w5.alloc (.cells #[.slice ra rs.length rc, .slice ga gs.length gc, .slice sa ss.length sc] 40)) := grow_alloc (Below.refl _ _) _
  have hXT : w.heap.size + 1 < w5.heap.size := by have := World.block_lt_of_cell? w5 _ z3; simpa using this
  have HS0 : Hid ((w5.alloc (.cells #[.slice ra rs.length rc, .slice ga gs.length gc, .slice sa ss.length sc] 40)).cell? ⟨w.heap.size, 1, none⟩ = some (.slice ga gs.length gc) ∧ (w5.alloc (.cells #[.slice ra rs.length rc, .slice ga gs.length gc, .slice sa ss.length sc] 40)).cell? ⟨w.heap.size + 1, 0, none⟩ = some (.int .i64 g.k) ∧ (w5.alloc (.cells #[.slice ra rs.length rc, .slice ga gs.length gc, .slice sa ss.length sc] 40)).cell? ⟨w.heap.size + 1, 1, none⟩ = some (.int .i64 g.ak) ∧ (w5.alloc (.cells #[.slice ra rs.length rc, .slice ga gs.length gc, .slice sa ss.length sc] 40)).cell? ⟨w.heap.size + 1, 2, none⟩ = some (.int .i64 g.an) ∧ (w5.alloc (.cells #[.slice ra rs.length rc, .slice ga gs.length gc, .slice sa ss.length sc] 40)).cell? ⟨w.heap.size + 1, 3, none⟩ = some (.int .i64 g.bk) ∧ (w5.alloc (.cells #[.slice ra rs.length rc, .slice ga gs.length gc, .slice sa ss.length sc] 40)).cell? ⟨w.heap.size + 1, 4, none⟩ = some (.int .i64 g.bn) ∧ (w5.alloc (.cells #[.slice ra rs.length rc, .slice ga gs.length gc, .slice sa ss.length sc] 40)).cell? ⟨w5.heap.size, 0, none⟩ = some (.slice ra rs.length rc) ∧ (w5.alloc (.cells #[.slice ra rs.length rc, .slice ga gs.length gc, .slice sa ss.length sc] 40)).cell? ⟨w5.heap.size, 2, none⟩ = some (.slice sa ss.length sc) ∧ (∀ j, (w5.alloc (.cells #[.slice ra rs.length rc, .slice ga gs.length gc, .slice sa ss.length sc] 40)).frozen? ⟨w5.heap.size, j, none⟩ = false) ∧ (∃ u, (w5.alloc (.cells #[.slice ra rs.length rc, .slice ga gs.length gc, .slice sa ss.length sc] 40)).cell? ⟨w5.heap.size, 1, none⟩ = some u) ∧ Hid (Below w5.heap.size w5 (w5.alloc (.cells #[.slice ra rs.length rc, .slice ga gs.length gc, .slice sa ss.length sc] 40)))) := ⟨ext_cell UV z1, ext_cell UV z3, ext_cell UV z4, ext_cell UV z5, ext_cell UV z6, ext_cell UV z7, by simp, by simp, fun j => by simp, ⟨.slice ga gs.length gc, by simp⟩, UV⟩
  have hVB : (w5.alloc (.cells #[.slice ra rs.length rc, .slice ga gs.length gc, .slice sa ss.length sc] 40)).heap.size = w5.heap.size + 1 := by simp
  have HG : Hid (IsGs w5 ga gs) := HT.out.g.below B5.out
  have UVh : Hid (Below w5.heap.size w5 (w5.alloc (.cells #[.slice ra rs.length rc, .slice ga gs.length gc, .slice sa ss.length sc] 40))) := UV
  clear UV
  generalize (w5.alloc (.cells #[.slice ra rs.length rc, .slice ga gs.length gc, .slice sa ss.length sc] 40)) = V at *
  go_cut [] (fun wx => ∃ na nc, wx.cell? ⟨w5.heap.size, 0, none⟩ = some (.slice ra rs.length rc) ∧ wx.cell? ⟨w5.heap.size, 1, none⟩ = some (.slice na (gs ++ [g]).length nc) ∧ wx.cell? ⟨w5.heap.size, 2, none⟩ = some (.slice sa ss.length sc) ∧ IsGs wx na (gs ++ [g]) ∧ Below w5.heap.size w5 wx)
  case first =>
    clear z0 z1 z2 z3 z4 z5 z6 z7 s0 s1
    go_region_held3 (fun w' => w'.cell? ⟨w.heap.size, 1, none⟩ = some (.slice ga gs.length gc) ∧ w'.cell? ⟨w.heap.size + 1, 0, none⟩ = some (.int .i64 g.k) ∧ w'.cell? ⟨w.heap.size + 1, 1, none⟩ = some (.int .i64 g.ak) ∧ w'.cell? ⟨w.heap.size + 1, 2, none⟩ = some (.int .i64 g.an) ∧ w'.cell? ⟨w.heap.size + 1, 3, none⟩ = some (.int .i64 g.bk) ∧ w'.cell? ⟨w.heap.size + 1, 4, none⟩ = some (.int .i64 g.bn) ∧ w'.cell? ⟨w5.heap.size, 0, none⟩ = some (.slice ra rs.length rc) ∧ w'.cell? ⟨w5.heap.size, 2, none⟩ = some (.slice sa ss.length sc) ∧ (∀ j, w'.frozen? ⟨w5.heap.size, j, none⟩ = false) ∧ (∃ u, w'.cell? ⟨w5.heap.size, 1, none⟩ = some u) ∧ Hid (Below w5.heap.size w5 w')) ((first | exact kp_below (grow_drew (Below.refl _ _)) hXT HS0.out | exact kp_set _ hXT (by assumption) | exact kp_grown hgrow2 hlo2 hXT (by assumption) | exact kp_grown hgrow hlo hXT (by assumption) | exact kp_below (grow_alloc (Below.refl _ _) _) hXT (by assumption) | exact kp_below (grow_drew (Below.refl _ _)) hXT (by assumption)))
      (first
        | (refine step_append_gs (by rfl) _ _ (by rfl) (w5.heap.size + 1) (.slice (some ⟨_, 0, none⟩) 0 0) [] (by rfl) ?_ ga gs gc (by rfl) ?_ (by simp; omega) ?_ ?_;
           (repeat (first | exact own_empty5 _ _ _ (by first | rfl | omega | (simp; done) | (simp; omega)) (by first | exact Nat.le_refl _ | omega | (simp; done) | (simp; omega)) | refine owns_below ?_ (grow_drew (Below.refl _ _)) | refine owns_below ?_ (grow_alloc (Below.refl _ _) _))); (exact HG.out.below (by repeat (first | exact UVh.out | refine grow_drew ?_ | refine grow_alloc ?_ _))); (first | omega | (simp; done) | (simp; omega));
           (intro v' w1' hown' hgrow hlo hsz1; have ho : Hid (w1'.ownsRow (w5.heap.size + 1) 58 5 v' gs.length (flat gs)) := hown'))
        | (refine step_append_gs (by rfl) _ _ (by rfl) (w5.heap.size + 1) v' gs (by rfl) ?_ (some ⟨_, 0, none⟩) [g] 1 (by rfl) ?_ (by simp; omega) ?_ ?_;
           (repeat (first | exact ho.out | refine owns_below ?_ (grow_drew (Below.refl _ _)) | refine owns_below ?_ (grow_alloc (Below.refl _ _) _))); (repeat (first | exact isGs_one _ _ _ _ _ _ _ (by first | rfl | omega | (simp; done) | (simp; omega)) | refine IsGs.below ?_ (grow_drew (Below.refl _ _)) | refine IsGs.below ?_ (grow_alloc (Below.refl _ _) _) | refine IsGs.grown ?_ hgrow (by intro ad had; injection had with had; subst had; first | (simp [Value.ownBlock]; done) | (simp [Value.ownBlock]; omega)))); (first | omega | (simp; done) | (simp; omega));
           (intro v2 w2 hown2 hgrow2 hlo2 hsz2; obtain ⟨u1, hu1⟩ := kp_t1 (kp_grown hgrow2 hlo2 hXT (by assumption)); obtain ⟨na, nc, rfl, hgs2⟩ := gs_of_owns hown2)))
    all_goals (go_wp2_with fail; go_meet; exact cut_end hown2 hgs2 hu1 (by assumption))
  case rest =>
    obtain ⟨na, nc, n0, n1, n2, hgn, hbn⟩ := hcut
    have s0' := ext_cell hbn s0
    have hm6 : Hid (IsInts wc ma (allS zs ss)) := hm5.out.below hbn
    have B6 : Below w.heap.size w wc := grow_trans B5.out hbn
    have HTn : IsTx wc ra na sa rs (gs ++ [g]) ss := ⟨(HT.out.below B6).r, hgn, (HT.out.below B6).s, HT.out.lr, by simp; unfold maxLen; omega, HT.out.ls⟩
    have hsn : Hid (allG zs (gs ++ [g]) = (true && gHold zs g)) := by show _ = _; rw [allG_snoc, HD.out]
    clear z0 z1 z2 z3 z4 z5 z6 z7 s0 s1 hm5 B5 hbn hgn HS0 hVB HG UVh hXT
    generalize gs ++ [g] = gs2 at *
    go_wp2_with fail
    refine (txnRun_any ra na sa rc nc sc rs gs2 ss za zc zs _ HTn (HZ.out.below B6) HN.out).mono ?_
    rintro e w6 ⟨va2, vc2, ma2, mc2, rfl, hva2, hma2, hb6⟩
    have t0 := ext_cell hb6 s0'
    have hl7 := hm6.out.below hb6
    have B7 := grow_trans B6 hb6
    clear n0 n1 n2 s0' hm6 B6 hb6 HTn
    by_cases hE2 : runE rs gs2 ss zs = 0
    · by_cases hD2 : allG zs gs2 = true
      · have f1 : runD rs gs2 ss zs = true := (if_pos hE2).trans hD2
        have f2 : runV rs gs2 ss zs = zs := if_pos hE2
        have f3 : runM rs gs2 ss zs = (allS zs ss) := (if_pos hE2).trans (by unfold madeOf; rw [hD2]; rfl)
        rw [f1, f2, f3, hE2]
        rw [f3] at hma2
        have hm2 := hma2.ints (Nat.le_refl _)
        rw [hal.out]
        clear f1 f2 f3 hE2 hD2 hva2 hma2
        go_wp2_with fail
        refine (txnBegun_any _).mono ?_
        rintro e w8 ⟨rfl, hb8⟩
        have v0 : w8.cell? ⟨w6.heap.size, 0, none⟩ = some (.bool true) := ext_cell hb8 (by simp)
        have v1 := ext_cell (grow_trans (grow_alloc (Below.refl _ _) _) hb8) t0
        have B8 := grow_trans (grow_alloc B7 _) hb8
        have q1 := hm2.below (grow_trans (grow_alloc (Below.refl _ _) _) hb8)
        have q2 := hl7.below (grow_trans (grow_alloc (Below.refl _ _) _) hb8)
        have hsm := sameInts_any (allS zs ss) (allS zs ss) ma2 ma mc2 mc w8 (by rw [hal.out]; unfold maxLen; omega) q1 q2
        rw [hal.out] at hsm
        clear hb8 t0 hm2 hl7
        go_wp2_with fail
        refine hsm.mono ?_
        rintro e w9 ⟨rfl, hb9⟩
        have B9 := grow_trans B8 hb9
        go_wp2
        go_ret
        exact ⟨by simp, B9⟩
      · replace hD2 : allG zs gs2 = false := by simpa using hD2
        have f1 : runD rs gs2 ss zs = false := (if_pos hE2).trans hD2
        have f2 : runV rs gs2 ss zs = zs := if_pos hE2
        have f3 : runM rs gs2 ss zs = ([] : List Int) := (if_pos hE2).trans (by unfold madeOf; rw [hD2]; rfl)
        rw [f1, f2, f3, hE2]
        rw [f3] at hma2
        clear f1 f2 f3 hE2 hD2 hva2 hma2
        go_wp2_with fail
        refine (txnBegun_any _).mono ?_
        rintro e w8 ⟨rfl, hb8⟩
        have v0 : w8.cell? ⟨w6.heap.size, 0, none⟩ = some (.bool false) := ext_cell hb8 (by simp)
        have v1 := ext_cell (grow_trans (grow_alloc (Below.refl _ _) _) hb8) t0
        have B8 := grow_trans (grow_alloc B7 _) hb8
        clear hb8 t0 hl7
        go_wp2
        go_ret
        exact ⟨by simp, B8⟩
    · have f1 : runD rs gs2 ss zs = false := if_neg hE2
      have f2 : runV rs gs2 ss zs = ([] : List Int) := if_neg hE2
      have f3 : runM rs gs2 ss zs = ([] : List Int) := if_neg hE2
      rw [f1, f2, f3]
      rw [f3] at hma2
      have heb : (runE rs gs2 ss zs != 0) = true := by rw [bne_iff_ne]; exact hE2
      clear f1 f2 f3 hE2 hva2 hma2
      generalize runE rs gs2 ss zs = E2 at *
      go_wp2_with fail
      refine (txnBegun_any _).mono ?_
      rintro e w8 ⟨rfl, hb8⟩
      have v0 : w8.cell? ⟨w6.heap.size, 0, none⟩ = some (.bool false) := ext_cell hb8 (by simp)
      have v1 := ext_cell (grow_trans (grow_alloc (Below.refl _ _) _) hb8) t0
      have B8 := grow_trans (grow_alloc B7 _) hb8
      clear hb8 t0 hl7
      go_wp2
      go_ret
      exact ⟨by simp, B8⟩

set_option maxRecDepth 100000 in
set_option maxHeartbeats 4000000 in
theorem txnTrue_Fn (w : World) (ht : IsTx w ra ga sa rs gs ss) (hz : IsInts w za zs) (hzl : zs.length ≤ maxLen) (hn : za = none → zc = 0) (hE : runE rs gs ss zs = 0) (hD : allG zs gs = false) (hg0 : 0 < gs.length) :
    Calls Try.prog 8 #[.agg #[.slice ra rs.length rc, .slice ga gs.length gc, .slice sa ss.length sc], .slice za zs.length zc, .agg #[.int .i64 g.k, .int .i64 g.ak, .int .i64 g.an, .int .i64 g.bk, .int .i64 g.bn]] w fun e w' => e = .returned (.bool true) ∧ Below w.heap.size w w' := by
  obtain ⟨hC, hL⟩ := runE_zero hE
  obtain ⟨hm, _, hgg, hss⟩ := chk_parts hC
  obtain ⟨h4, hg2, h3, hs1⟩ := many_small _ _ _ hm
  have e1 : Hid (runD rs gs ss zs = false) := (if_pos hE).trans hD
  have e2 : Hid (runV rs gs ss zs = zs) := if_pos hE
  have e3 : Hid (runM rs gs ss zs = ([] : List Int)) := (if_pos hE).trans (by unfold madeOf; rw [hD]; rfl)
  have e4 : Hid (runE rs gs ss zs = 0) := hE
  have hal : Hid ((allS zs ss).length = ss.length) := by simp [allS, Hid]
  have HD : Hid (allG zs gs = false) := hD
  have hsb : ((ss.length : Int) != 0) = true := by rw [bne_iff_ne]; omega
  have hgb : ((gs.length : Int) == 0) = false := by rw [beq_eq_false_iff_ne]; omega
  have h4' : zs.length ≤ 4 := by omega
  clear hE hC hL hm hgg hss h4 hD hg0
  have HT : Hid (IsTx w ra ga sa rs gs ss) := ht
  have HZ : Hid (IsInts w za zs) := hz
  have HN : Hid (za = none → zc = 0) := hn
  have hzl' : Hid (zs.length ≤ maxLen) := hzl
  clear ht hz hn hzl
  go_enter Try.func8, Try.ntmps8
  go_wp2_with fail
  have U0 : Below w.heap.size w ((w.alloc (.cells #[.slice ra rs.length rc, .slice ga gs.length gc, .slice sa ss.length sc] 40)).alloc (.cells #[.int .i64 g.k, .int .i64 g.ak, .int .i64 g.an, .int .i64 g.bk, .int .i64 g.bn] 58)) := grow_alloc (grow_alloc (Below.refl _ _) _) _
  refine (txnRun_any ra ga sa rc gc sc rs gs ss za zc zs _ (HT.out.below U0) (HZ.out.below U0) HN.out).mono ?_
  rintro e w1 ⟨va, vc, ma, mc, rfl, hva, hma, hb1⟩
  rw [e1.out, e2.out, e3.out, e4.out]
  rw [e2.out] at hva
  rw [e3.out] at hma
  have hv := hva.ints (Nat.le_refl _)
  have hm := hma.ints (Nat.le_refl _)
  have x0 : w1.cell? ⟨w.heap.size, 0, none⟩ = some (.slice ra rs.length rc) := ext_cell hb1 (by simp)
  have x1 : w1.cell? ⟨w.heap.size, 1, none⟩ = some (.slice ga gs.length gc) := ext_cell hb1 (by simp)
  have x2 : w1.cell? ⟨w.heap.size, 2, none⟩ = some (.slice sa ss.length sc) := ext_cell hb1 (by simp)
  have x3 : w1.cell? ⟨w.heap.size + 1, 0, none⟩ = some (.int .i64 g.k) := ext_cell hb1 (by simp)
  have x4 : w1.cell? ⟨w.heap.size + 1, 1, none⟩ = some (.int .i64 g.ak) := ext_cell hb1 (by simp)
  have x5 : w1.cell? ⟨w.heap.size + 1, 2, none⟩ = some (.int .i64 g.an) := ext_cell hb1 (by simp)
  have x6 : w1.cell? ⟨w.heap.size + 1, 3, none⟩ = some (.int .i64 g.bk) := ext_cell hb1 (by simp)
  have x7 : w1.cell? ⟨w.heap.size + 1, 4, none⟩ = some (.int .i64 g.bn) := ext_cell hb1 (by simp)
  have B1 : Below w.heap.size w w1 := grow_trans U0 hb1
  have U1 : Below w1.heap.size w1 (w1.alloc (.cells #[.bool false, .slice va zs.length vc] 50)) := grow_alloc (Below.refl _ _) _
  have y0 := ext_cell U1 x0
  have y1 := ext_cell U1 x1
  have y2 := ext_cell U1 x2
  have y3 := ext_cell U1 x3
  have y4 := ext_cell U1 x4
  have y5 := ext_cell U1 x5
  have y6 := ext_cell U1 x6
  have y7 := ext_cell U1 x7
  have r0 : (w1.alloc (.cells #[.bool false, .slice va zs.length vc] 50)).cell? ⟨w1.heap.size, 0, none⟩ = some (.bool false) := by simp
  have r1 : (w1.alloc (.cells #[.bool false, .slice va zs.length vc] 50)).cell? ⟨w1.heap.size, 1, none⟩ = some (.slice va zs.length vc) := by simp
  have hv1 := hv.below U1
  have hm1 : Hid (IsInts _ ma ([] : List Int)) := hm.below U1
  have B2 := grow_trans B1 U1
  rw [List.length_nil]
  clear hva hma hb1 hv hm x0 x1 x2 x3 x4 x5 x6 x7 U0 U1 B1
  obtain ⟨R, hR⟩ : ∃ R, R = w1.heap.size := ⟨_, rfl⟩
  generalize hW : (w1.alloc (.cells #[.bool false, .slice va zs.length vc] 50)) = W at *
  go_wp2_with fail
  refine (sameInts_any zs zs va za vc zc _ hzl'.out hv1 (HZ.out.below B2)).mono ?_
  rintro e w5 ⟨rfl, hb5⟩
  have hsame : decide (zs = zs) = true := by simp
  rw [hsame]
  have z0 := ext_cell hb5 y0
  have z1 := ext_cell hb5 y1
  have z2 := ext_cell hb5 y2
  have z3 := ext_cell hb5 y3
  have z4 := ext_cell hb5 y4
  have z5 := ext_cell hb5 y5
  have z6 := ext_cell hb5 y6
  have z7 := ext_cell hb5 y7
  rw [← hR] at r0 r1
  have s0 := ext_cell hb5 r0
  have s1 := ext_cell hb5 r1
  have hm5 : Hid (IsInts w5 ma ([] : List Int)) := hm1.out.below hb5
  have B5 : Hid (Below w.heap.size w w5) := grow_trans B2 hb5
  clear y0 y1 y2 y3 y4 y5 y6 y7 r0 r1 hv1 hm1 B2 hb5 hW
  rw [← hR]
  clear hR
  go_upto_region 7 with fail
  clear hsb hgb
  have UV : Below w5.heap.size w5 (w5.alloc (.cells #[.slice ra rs.length rc, .slice ga gs.length gc, .slice sa ss.length sc] 40)) := grow_alloc (Below.refl _ _) _
  have hXT : w.heap.size + 1 < w5.heap.size := by have := World.block_lt_of_cell? w5 _ z3; simpa using this
  have HS0 : Hid ((w5.alloc (.cells #[.slice ra rs.length rc, .slice ga gs.length gc, .slice sa ss.length sc] 40)).cell? ⟨w.heap.size, 1, none⟩ = some (.slice ga gs.length gc) ∧ (w5.alloc (.cells #[.slice ra rs.length rc, .slice ga gs.length gc, .slice sa ss.length sc] 40)).cell? ⟨w.heap.size + 1, 0, none⟩ = some (.int .i64 g.k) ∧ (w5.alloc (.cells #[.slice ra rs.length rc, .slice ga gs.length gc, .slice sa ss.length sc] 40)).cell? ⟨w.heap.size + 1, 1, none⟩ = some (.int .i64 g.ak) ∧ (w5.alloc (.cells #[.slice ra rs.length rc, .slice ga gs.length gc, .slice sa ss.length sc] 40)).cell? ⟨w.heap.size + 1, 2, none⟩ = some (.int .i64 g.an) ∧ (w5.alloc (.cells #[.slice ra rs.length rc, .slice ga gs.length gc, .slice sa ss.length sc] 40)).cell? ⟨w.heap.size + 1, 3, none⟩ = some (.int .i64 g.bk) ∧ (w5.alloc (.cells #[.slice ra rs.length rc, .slice ga gs.length gc, .slice sa ss.length sc] 40)).cell? ⟨w.heap.size + 1, 4, none⟩ = some (.int .i64 g.bn) ∧ (w5.alloc (.cells #[.slice ra rs.length rc, .slice ga gs.length gc, .slice sa ss.length sc] 40)).cell? ⟨w5.heap.size, 0, none⟩ = some (.slice ra rs.length rc) ∧ (w5.alloc (.cells #[.slice ra rs.length rc, .slice ga gs.length gc, .slice sa ss.length sc] 40)).cell? ⟨w5.heap.size, 2, none⟩ = some (.slice sa ss.length sc) ∧ (∀ j, (w5.alloc (.cells #[.slice ra rs.length rc, .slice ga gs.length gc, .slice sa ss.length sc] 40)).frozen? ⟨w5.heap.size, j, none⟩ = false) ∧ (∃ u, (w5.alloc (.cells #[.slice ra rs.length rc, .slice ga gs.length gc, .slice sa ss.length sc] 40)).cell? ⟨w5.heap.size, 1, none⟩ = some u) ∧ Hid (Below w5.heap.size w5 (w5.alloc (.cells #[.slice ra rs.length rc, .slice ga gs.length gc, .slice sa ss.length sc] 40)))) := ⟨ext_cell UV z1, ext_cell UV z3, ext_cell UV z4, ext_cell UV z5, ext_cell UV z6, ext_cell UV z7, by simp, by simp, fun j => by simp, ⟨.slice ga gs.length gc, by simp⟩, UV⟩
  have hVB : (w5.alloc (.cells #[.slice ra rs.length rc, .slice ga gs.length gc, .slice sa ss.length sc] 40)).heap.size = w5.heap.size + 1 := by simp
  have HG : Hid (IsGs w5 ga gs) := HT.out.g.below B5.out
  have UVh : Hid (Below w5.heap.size w5 (w5.alloc (.cells #[.slice ra rs.length rc, .slice ga gs.length gc, .slice sa ss.length sc] 40))) := UV
  clear UV
  generalize (w5.alloc (.cells #[.slice ra rs.length rc, .slice ga gs.length gc, .slice sa ss.length sc] 40)) = V at *
  go_cut [] (fun wx => ∃ na nc, wx.cell? ⟨w5.heap.size, 0, none⟩ = some (.slice ra rs.length rc) ∧ wx.cell? ⟨w5.heap.size, 1, none⟩ = some (.slice na (gs ++ [g]).length nc) ∧ wx.cell? ⟨w5.heap.size, 2, none⟩ = some (.slice sa ss.length sc) ∧ IsGs wx na (gs ++ [g]) ∧ Below w5.heap.size w5 wx)
  case first =>
    clear z0 z1 z2 z3 z4 z5 z6 z7 s0 s1
    go_region_held3 (fun w' => w'.cell? ⟨w.heap.size, 1, none⟩ = some (.slice ga gs.length gc) ∧ w'.cell? ⟨w.heap.size + 1, 0, none⟩ = some (.int .i64 g.k) ∧ w'.cell? ⟨w.heap.size + 1, 1, none⟩ = some (.int .i64 g.ak) ∧ w'.cell? ⟨w.heap.size + 1, 2, none⟩ = some (.int .i64 g.an) ∧ w'.cell? ⟨w.heap.size + 1, 3, none⟩ = some (.int .i64 g.bk) ∧ w'.cell? ⟨w.heap.size + 1, 4, none⟩ = some (.int .i64 g.bn) ∧ w'.cell? ⟨w5.heap.size, 0, none⟩ = some (.slice ra rs.length rc) ∧ w'.cell? ⟨w5.heap.size, 2, none⟩ = some (.slice sa ss.length sc) ∧ (∀ j, w'.frozen? ⟨w5.heap.size, j, none⟩ = false) ∧ (∃ u, w'.cell? ⟨w5.heap.size, 1, none⟩ = some u) ∧ Hid (Below w5.heap.size w5 w')) ((first | exact kp_below (grow_drew (Below.refl _ _)) hXT HS0.out | exact kp_set _ hXT (by assumption) | exact kp_grown hgrow2 hlo2 hXT (by assumption) | exact kp_grown hgrow hlo hXT (by assumption) | exact kp_below (grow_alloc (Below.refl _ _) _) hXT (by assumption) | exact kp_below (grow_drew (Below.refl _ _)) hXT (by assumption)))
      (first
        | (refine step_append_gs (by rfl) _ _ (by rfl) (w5.heap.size + 1) (.slice (some ⟨_, 0, none⟩) 0 0) [] (by rfl) ?_ ga gs gc (by rfl) ?_ (by simp; omega) ?_ ?_;
           (repeat (first | exact own_empty5 _ _ _ (by first | rfl | omega | (simp; done) | (simp; omega)) (by first | exact Nat.le_refl _ | omega | (simp; done) | (simp; omega)) | refine owns_below ?_ (grow_drew (Below.refl _ _)) | refine owns_below ?_ (grow_alloc (Below.refl _ _) _))); (exact HG.out.below (by repeat (first | exact UVh.out | refine grow_drew ?_ | refine grow_alloc ?_ _))); (first | omega | (simp; done) | (simp; omega));
           (intro v' w1' hown' hgrow hlo hsz1; have ho : Hid (w1'.ownsRow (w5.heap.size + 1) 58 5 v' gs.length (flat gs)) := hown'))
        | (refine step_append_gs (by rfl) _ _ (by rfl) (w5.heap.size + 1) v' gs (by rfl) ?_ (some ⟨_, 0, none⟩) [g] 1 (by rfl) ?_ (by simp; omega) ?_ ?_;
           (repeat (first | exact ho.out | refine owns_below ?_ (grow_drew (Below.refl _ _)) | refine owns_below ?_ (grow_alloc (Below.refl _ _) _))); (repeat (first | exact isGs_one _ _ _ _ _ _ _ (by first | rfl | omega | (simp; done) | (simp; omega)) | refine IsGs.below ?_ (grow_drew (Below.refl _ _)) | refine IsGs.below ?_ (grow_alloc (Below.refl _ _) _) | refine IsGs.grown ?_ hgrow (by intro ad had; injection had with had; subst had; first | (simp [Value.ownBlock]; done) | (simp [Value.ownBlock]; omega)))); (first | omega | (simp; done) | (simp; omega));
           (intro v2 w2 hown2 hgrow2 hlo2 hsz2; obtain ⟨u1, hu1⟩ := kp_t1 (kp_grown hgrow2 hlo2 hXT (by assumption)); obtain ⟨na, nc, rfl, hgs2⟩ := gs_of_owns hown2)))
    all_goals (go_wp2_with fail; go_meet; exact cut_end hown2 hgs2 hu1 (by assumption))
  case rest =>
    obtain ⟨na, nc, n0, n1, n2, hgn, hbn⟩ := hcut
    have s0' := ext_cell hbn s0
    have hm6 : Hid (IsInts wc ma ([] : List Int)) := hm5.out.below hbn
    have B6 : Below w.heap.size w wc := grow_trans B5.out hbn
    have HTn : IsTx wc ra na sa rs (gs ++ [g]) ss := ⟨(HT.out.below B6).r, hgn, (HT.out.below B6).s, HT.out.lr, by simp; unfold maxLen; omega, HT.out.ls⟩
    have hsn : Hid (allG zs (gs ++ [g]) = (false && gHold zs g)) := by show _ = _; rw [allG_snoc, HD.out]
    clear z0 z1 z2 z3 z4 z5 z6 z7 s0 s1 hm5 B5 hbn hgn HS0 hVB HG UVh hXT
    generalize gs ++ [g] = gs2 at *
    go_wp2_with fail
    refine (txnRun_any ra na sa rc nc sc rs gs2 ss za zc zs _ HTn (HZ.out.below B6) HN.out).mono ?_
    rintro e w6 ⟨va2, vc2, ma2, mc2, rfl, hva2, hma2, hb6⟩
    have t0 := ext_cell hb6 s0'
    have hl7 := hm6.out.below hb6
    have B7 := grow_trans B6 hb6
    clear n0 n1 n2 s0' hm6 B6 hb6 HTn
    by_cases hE2 : runE rs gs2 ss zs = 0
    · by_cases hD2 : allG zs gs2 = true
      · rw [hsn.out] at hD2; simp at hD2
      · replace hD2 : allG zs gs2 = false := by simpa using hD2
        have f1 : runD rs gs2 ss zs = false := (if_pos hE2).trans hD2
        have f2 : runV rs gs2 ss zs = zs := if_pos hE2
        have f3 : runM rs gs2 ss zs = ([] : List Int) := (if_pos hE2).trans (by unfold madeOf; rw [hD2]; rfl)
        rw [f1, f2, f3, hE2]
        rw [f3] at hma2
        clear f1 f2 f3 hE2 hD2 hva2 hma2
        go_wp2_with fail
        refine (txnBegun_any _).mono ?_
        rintro e w8 ⟨rfl, hb8⟩
        have v0 : w8.cell? ⟨w6.heap.size, 0, none⟩ = some (.bool false) := ext_cell hb8 (by simp)
        have v1 := ext_cell (grow_trans (grow_alloc (Below.refl _ _) _) hb8) t0
        have B8 := grow_trans (grow_alloc B7 _) hb8
        clear hb8 t0 hl7
        go_wp2
        go_ret
        exact ⟨by simp, B8⟩
    · have f1 : runD rs gs2 ss zs = false := if_neg hE2
      have f2 : runV rs gs2 ss zs = ([] : List Int) := if_neg hE2
      have f3 : runM rs gs2 ss zs = ([] : List Int) := if_neg hE2
      rw [f1, f2, f3]
      rw [f3] at hma2
      have heb : (runE rs gs2 ss zs != 0) = true := by rw [bne_iff_ne]; exact hE2
      clear f1 f2 f3 hE2 hva2 hma2
      generalize runE rs gs2 ss zs = E2 at *
      go_wp2_with fail
      refine (txnBegun_any _).mono ?_
      rintro e w8 ⟨rfl, hb8⟩
      have v0 : w8.cell? ⟨w6.heap.size, 0, none⟩ = some (.bool false) := ext_cell hb8 (by simp)
      have v1 := ext_cell (grow_trans (grow_alloc (Below.refl _ _) _) hb8) t0
      have B8 := grow_trans (grow_alloc B7 _) hb8
      clear hb8 t0 hl7
      go_wp2
      go_ret
      exact ⟨by simp, B8⟩

theorem txnTrue_walk (w : World) (ht : IsTx w ra ga sa rs gs ss) (hz : IsInts w za zs) (hzl : zs.length ≤ maxLen) (hn : za = none → zc = 0) :
    Calls Try.prog 8 #[.agg #[.slice ra rs.length rc, .slice ga gs.length gc, .slice sa ss.length sc], .slice za zs.length zc, .agg #[.int .i64 g.k, .int .i64 g.ak, .int .i64 g.an, .int .i64 g.bk, .int .i64 g.bn]] w fun e w' => e = .returned (.bool true) ∧ Below w.heap.size w w' := by
  by_cases hE : runE rs gs ss zs = 0
  · rcases Nat.eq_zero_or_pos gs.length with h0 | h0
    · have hg : gs = [] := List.eq_nil_of_length_eq_zero h0
      exact txnTrue_T0 ra ga sa rc gc sc rs gs ss za zc zs g w ht hz hzl hn hE (by rw [hg]; rfl) h0
    · by_cases hD : allG zs gs = true
      · exact txnTrue_Tn ra ga sa rc gc sc rs gs ss za zc zs g w ht hz hzl hn hE hD h0
      · exact txnTrue_Fn ra ga sa rc gc sc rs gs ss za zc zs g w ht hz hzl hn hE (by simpa using hD) h0
  · exact txnTrue_bad ra ga sa rc gc sc rs gs ss za zc zs g w ht hz hn hE
end Go.Proofs.Ytobhbllohafdhaa
