/-
  A run, whatever list without elements it is handed.
  Conditions: those that each theorem states.
-/
import Derived.Test.YtcgpkonfneofdaaTxnK
import Derived.WalkKit
import Derived.WalkSpells
import Derived.WalkLawsBesides
import Derived.Defers
import Derived.Recover
import Derived.ProofKit
import Derived.Deep.RegionHeld
import Derived.Deep.RegionHeld3
import Derived.Deep.RegionLaw
import Derived.Deep.DeepCutAuto
import Derived.Deep.QuietTactic
import Derived.BigQuiet
import Derived.Maps.AppendAt
import Derived.Lib.SliceRun
import Derived.Deep.AppendLies
namespace Go.Proofs.Ytcgpkonfneofdaa
open Go.RowKit

set_option maxRecDepth 100000 in
theorem clone_nil2 (zc : Nat) (w : World) : Calls Try.prog 74 #[.slice none 0 zc] w fun e w' => ∃ cap, e = .returned (.slice none 0 cap) ∧ w' = w := by
  have q24 : ∀ (w : World) (a : Option Addr) (n c n' c' : Nat), (binOp .eql 22 (.slice a n c) (.slice none n' c')).run Try.prog w = .ok (.bool a.isNone) w := fun w a n c n' c' => Lib.run_eql_slice_nil w _ _ a n c n' c' Try.underlying22
  go_enter Try.func74, Try.ntmps74
  go_wp2
  go_ret
  exact ⟨_, rfl, rfl⟩
set_option maxRecDepth 100000 in
theorem clone2_any (zs : List Int) (za : Option Addr) (zc : Nat) (w : World) (h4 : zs.length ≤ 4) (hz : IsInts w za zs) :
    Calls Try.prog 74 #[.slice za zs.length zc] w fun e w' => ∃ a cap, e = .returned (.slice a zs.length cap) ∧ IsAt w.heap.size w'.heap.size w' a zs ∧ Below w.heap.size w w' := by
  cases za with
  | none =>
    have hzs : zs = [] := by
      cases zs with
      | nil => rfl
      | cons z t =>
        obtain ⟨b, off, ha, _⟩ := hz 0 (by simp)
        cases ha
    subst hzs
    exact (clone_nil2 zc w).mono fun e w' ⟨cap, he, hw⟩ => ⟨none, cap, he, fun i hi => absurd hi (by simp), by rw [hw]; exact Below.refl _ _⟩
  | some ad =>
    exact (clone_own zs ad zc w h4 hz).mono fun e w' ⟨v, he, ho, hb⟩ => by
      obtain ⟨a, cap, rfl, hza⟩ := at_of_owns ho
      exact ⟨a, cap, he, hza, hb⟩

variable (ra ga sa : Option Addr) (rc gc sc : Nat) (rs : List Int) (gs : List Gd) (ss : List St) (za : Option Addr) (zc : Nat) (zs : List Int)
set_option maxRecDepth 100000 in
set_option maxHeartbeats 2000000 in
theorem outcome_no2 (w : World) (ht : IsTx w ra ga sa rs gs ss) (hz : IsInts w za zs) (h4 : zs.length ≤ 4) (hlen : zs.length = rs.length) (hg0 : firstNZ (gs.map (gErr rs.length)) = 0) (hd : allG zs gs = false) :
    Calls Try.prog 52 #[.agg #[.slice ra rs.length rc, .slice ga gs.length gc, .slice sa ss.length sc], .slice za zs.length zc] w fun e w' => ∃ va vc, e = .returned (.agg #[.bool false, .slice va zs.length vc, .slice none 0 0]) ∧ IsAt w.heap.size w'.heap.size w' va zs ∧ Below w.heap.size w w' := by
  have hzl : Hid (zs.length ≤ maxLen) := by show _ ≤ _; unfold maxLen; omega
  have HT : Hid (IsTx w ra ga sa rs gs ss) := ht
  have HZ : Hid (IsInts w za zs) := hz
  have HG : Hid (firstNZ (gs.map (gErr rs.length)) = 0) := hg0
  have HL : Hid (zs.length = rs.length) := hlen
  have HD : Hid (allG zs gs = false) := hd
  clear ht hz hg0 hlen hd
  go_enter Try.func52, Try.ntmps52
  go_wp2_with fail
  refine (guardsHold_ok ra ga sa rc gc sc rs gs ss za zc zs _ (HT.out.below (by repeat (first | assumption | exact Below.refl _ _ | refine grow_drew ?_ | refine grow_alloc ?_ _ | refine grow_trans ?_ (by assumption)))) (HZ.out.below (by repeat (first | assumption | exact Below.refl _ _ | refine grow_drew ?_ | refine grow_alloc ?_ _ | refine grow_trans ?_ (by assumption)))) hzl.out HL.out HG.out).mono ?_
  rintro e w1 ⟨rfl, hb1⟩
  rw [HD.out]
  go_wp2_with fail
  have B1 : Below w.heap.size w w1 := by repeat (first | assumption | exact Below.refl _ _ | refine grow_drew ?_ | refine grow_alloc ?_ _ | refine grow_trans ?_ (by assumption))
  refine (clone2_any zs za zc _ h4 (HZ.out.below B1)).mono ?_
  rintro e w2 ⟨va, vc, rfl, hva, hb2⟩
  have z0 : w1.cell? ⟨w.heap.size + 1, 0, none⟩ = some (.bool false) := (hb1.cell (by simp)).trans (by simp)
  have z1 : w1.cell? ⟨w.heap.size + 1, 1, none⟩ = some (.slice none 0 0) := (hb1.cell (by simp)).trans (by simp)
  have z2 : w1.cell? ⟨w.heap.size + 1, 2, none⟩ = some (.slice none 0 0) := (hb1.cell (by simp)).trans (by simp)
  have f1 : ∀ j, w1.frozen? ⟨w.heap.size + 1, j, none⟩ = false := fun j => (hb1.frozen (p := ⟨w.heap.size + 1, j, none⟩) (by simp)).trans (by simp)
  have x0 := ext_cell hb2 z0
  have x1 := ext_cell hb2 z1
  have x2 := ext_cell hb2 z2
  have hq := World.block_lt_of_cell? w1 _ z0
  have g1 : ∀ j, w2.frozen? ⟨w.heap.size + 1, j, none⟩ = false := fun j => (hb2.frozen (p := ⟨w.heap.size + 1, j, none⟩) hq).trans (f1 j)
  have hq2 : w.heap.size + 1 < w2.heap.size := Nat.lt_of_lt_of_le hq hb2.size
  have X0 := fun o => ext_cell (grow_alloc (Below.refl w2.heap.size w2) o) x0
  have X1 := fun o => ext_cell (grow_alloc (Below.refl w2.heap.size w2) o) x1
  have X2 := fun o => ext_cell (grow_alloc (Below.refl w2.heap.size w2) o) x2
  have G1 : ∀ o j, (w2.alloc o).frozen? ⟨w.heap.size + 1, j, none⟩ = false := fun o j => ((grow_alloc (Below.refl w2.heap.size w2) o).frozen (p := ⟨w.heap.size + 1, j, none⟩) hq2).trans (g1 j)
  have B2 := grow_trans B1 hb2
  have HB1 : Hid (w.heap.size ≤ w1.heap.size) := B1.size
  clear z0 z1 z2 f1 HT HZ HG HL HD
  go_wp2
  have r0 : ((((w2.setCell ⟨w.heap.size + 1, 0, none⟩ (.bool false)).setCell ⟨w.heap.size + 1, 1, none⟩ (.slice va zs.length vc)).setCell ⟨w.heap.size + 1, 2, none⟩ (.slice none 0 0)).alloc (.cells #[.bool false, .slice va zs.length vc, .slice none 0 0] 87)).cell? ⟨w.heap.size + 1, 0, none⟩ = some (.bool false) := by rw [World.cell?_alloc_lt _ _ _ (by simp; omega)]; simp [go_sem, x0]
  have r1 : ((((w2.setCell ⟨w.heap.size + 1, 0, none⟩ (.bool false)).setCell ⟨w.heap.size + 1, 1, none⟩ (.slice va zs.length vc)).setCell ⟨w.heap.size + 1, 2, none⟩ (.slice none 0 0)).alloc (.cells #[.bool false, .slice va zs.length vc, .slice none 0 0] 87)).cell? ⟨w.heap.size + 1, 1, none⟩ = some (.slice va zs.length vc) := by rw [World.cell?_alloc_lt _ _ _ (by simp; omega)]; simp [go_sem, x1]
  have r2 : ((((w2.setCell ⟨w.heap.size + 1, 0, none⟩ (.bool false)).setCell ⟨w.heap.size + 1, 1, none⟩ (.slice va zs.length vc)).setCell ⟨w.heap.size + 1, 2, none⟩ (.slice none 0 0)).alloc (.cells #[.bool false, .slice va zs.length vc, .slice none 0 0] 87)).cell? ⟨w.heap.size + 1, 2, none⟩ = some (.slice none 0 0) := by rw [World.cell?_alloc_lt _ _ _ (by simp; omega)]; simp [go_sem, x2]
  refine bodyPost_ret (v := .agg #[.bool false, .slice va zs.length vc, .slice none 0 0]) (by simp [results, Try.results52, go_sem, r0, r1, r2]) rfl ⟨va, vc, rfl, ?_, ?_⟩
  · have h1 := ((hva.set ⟨w.heap.size + 1, 0, none⟩ (.bool false) (.inl hq)).set ⟨w.heap.size + 1, 1, none⟩ (.slice va zs.length vc) (.inl hq)).set ⟨w.heap.size + 1, 2, none⟩ (.slice none 0 0) (.inl hq)
    exact (h1.below (grow_alloc (Below.refl _ _) _)).widen HB1.out (by simp)
  · exact grow_alloc (grow_set (grow_set (grow_set B2 (by simp) _) (by simp) _) (by simp) _) _

set_option maxRecDepth 100000 in
set_option maxHeartbeats 4000000 in
theorem outcome_yes2 (w : World) (ht : IsTx w ra ga sa rs gs ss) (hz : IsInts w za zs) (h4 : zs.length ≤ 4) (hlen : zs.length = rs.length) (hg0 : firstNZ (gs.map (gErr rs.length)) = 0) (hs0 : firstNZ (ss.map (sErr rs.length)) = 0) (h3 : ss.length ≤ 3) (hd : allG zs gs = true) :
    Calls Try.prog 52 #[.agg #[.slice ra rs.length rc, .slice ga gs.length gc, .slice sa ss.length sc], .slice za zs.length zc] w fun e w' => ∃ va vc ma mc, e = .returned (.agg #[.bool true, .slice va zs.length vc, .slice ma (allS zs ss).length mc]) ∧ IsAt w.heap.size w'.heap.size w' va zs ∧ IsAt w.heap.size w'.heap.size w' ma (allS zs ss) ∧ Below w.heap.size w w' := by
  have hzl : Hid (zs.length ≤ maxLen) := by show _ ≤ _; unfold maxLen; omega
  have HT : Hid (IsTx w ra ga sa rs gs ss) := ht
  have HZ : Hid (IsInts w za zs) := hz
  have HG : Hid (firstNZ (gs.map (gErr rs.length)) = 0) := hg0
  have HS : Hid (firstNZ (ss.map (sErr rs.length)) = 0) := hs0
  have HL : Hid (zs.length = rs.length) := hlen
  have HD : Hid (allG zs gs = true) := hd
  clear ht hz hg0 hlen hd hs0
  go_enter Try.func52, Try.ntmps52
  go_wp2_with fail
  refine (guardsHold_ok ra ga sa rc gc sc rs gs ss za zc zs _ (HT.out.below (by repeat (first | assumption | exact Below.refl _ _ | refine grow_drew ?_ | refine grow_alloc ?_ _ | refine grow_trans ?_ (by assumption)))) (HZ.out.below (by repeat (first | assumption | exact Below.refl _ _ | refine grow_drew ?_ | refine grow_alloc ?_ _ | refine grow_trans ?_ (by assumption)))) hzl.out HL.out HG.out).mono ?_
  rintro e w1 ⟨rfl, hb1⟩
  rw [HD.out]
  go_wp2_with fail
  have B1 : Below w.heap.size w w1 := by repeat (first | assumption | exact Below.refl _ _ | refine grow_drew ?_ | refine grow_alloc ?_ _ | refine grow_trans ?_ (by assumption))
  refine (clone2_any zs za zc _ h4 (HZ.out.below B1)).mono ?_
  rintro e w2 ⟨va, vc, rfl, hva, hb2⟩
  have bx0 : w1.cell? ⟨w.heap.size, 0, none⟩ = some (.slice ra rs.length rc) := (hb1.cell (by simp; omega)).trans ((World.cell?_alloc_lt _ _ _ (by simp)).trans (by simp))
  have bx1 : w1.cell? ⟨w.heap.size, 1, none⟩ = some (.slice ga gs.length gc) := (hb1.cell (by simp; omega)).trans ((World.cell?_alloc_lt _ _ _ (by simp)).trans (by simp))
  have bx2 : w1.cell? ⟨w.heap.size, 2, none⟩ = some (.slice sa ss.length sc) := (hb1.cell (by simp; omega)).trans ((World.cell?_alloc_lt _ _ _ (by simp)).trans (by simp))
  have z0 : w1.cell? ⟨w.heap.size + 1, 0, none⟩ = some (.bool false) := (hb1.cell (by simp)).trans (by simp)
  have z1 : w1.cell? ⟨w.heap.size + 1, 1, none⟩ = some (.slice none 0 0) := (hb1.cell (by simp)).trans (by simp)
  have z2 : w1.cell? ⟨w.heap.size + 1, 2, none⟩ = some (.slice none 0 0) := (hb1.cell (by simp)).trans (by simp)
  have f1 : ∀ j, w1.frozen? ⟨w.heap.size + 1, j, none⟩ = false := fun j => (hb1.frozen (p := ⟨w.heap.size + 1, j, none⟩) (by simp)).trans (by simp)
  have hq := World.block_lt_of_cell? w1 _ z0
  have hq2 : w.heap.size + 1 < w2.heap.size := Nat.lt_of_lt_of_le hq hb2.size
  have c0 := fun o => ext_cell (grow_alloc hb2 o) bx0
  have c1 := fun o => ext_cell (grow_alloc hb2 o) bx1
  have c2 := fun o => ext_cell (grow_alloc hb2 o) bx2
  have B2 := grow_trans B1 hb2
  clear bx0 bx1 bx2
  go_wp2_with fail
  refine (setValues_at ra ga sa rc gc sc rs gs ss za zc zs _ (HT.out.below (grow_alloc B2 _)) (HZ.out.below (grow_alloc B2 _)) hzl.out HL.out HS.out h3).mono ?_
  rintro e w3 ⟨ma, mc, rfl, hma, hb3⟩
  have hb13 : Below w1.heap.size w1 w3 := grow_trans (grow_alloc hb2 _) hb3
  have x0 := ext_cell hb13 z0
  have x1 := ext_cell hb13 z1
  have x2 := ext_cell hb13 z2
  have g1 : ∀ j, w3.frozen? ⟨w.heap.size + 1, j, none⟩ = false := fun j => (hb13.frozen (p := ⟨w.heap.size + 1, j, none⟩) hq).trans (f1 j)
  have o0 : w3.cell? ⟨w2.heap.size, 0, none⟩ = some (.bool true) := (hb3.cell (by simp)).trans (by simp)
  have o1 : w3.cell? ⟨w2.heap.size, 1, none⟩ = some (.slice va zs.length vc) := (hb3.cell (by simp)).trans (by simp)
  have o2 : w3.cell? ⟨w2.heap.size, 2, none⟩ = some (.slice none 0 0) := (hb3.cell (by simp)).trans (by simp)
  have og : ∀ j, w3.frozen? ⟨w2.heap.size, j, none⟩ = false := fun j => (hb3.frozen (p := ⟨w2.heap.size, j, none⟩) (by simp)).trans (by simp)
  have hne : ¬ w2.heap.size = w.heap.size + 1 := by omega
  have B3 : Below w.heap.size w w3 := grow_trans (grow_alloc B2 _) hb3
  have HB1 : Hid (w.heap.size ≤ w1.heap.size) := B1.size
  have hs3 : w2.heap.size + 1 ≤ w3.heap.size := by have := hb3.size; simpa using this
  have hva3 : IsAt w1.heap.size w2.heap.size w3 va zs := (hva.below (grow_alloc (Below.refl _ _) _)).below hb3
  have hma3 : IsAt (w2.heap.size + 1) w3.heap.size w3 ma (allS zs ss) := hma.widen (by simp) (Nat.le_refl _)
  have HLW : Hid (w1.heap.size ≤ w2.heap.size) := hb2.size
  clear z0 z1 z2 f1 HT HZ HG HL HD HS c0 c1 c2 hb1 hb2 hb3 hb13 hva hma B1 B2
  generalize w2.heap.size = q2 at *
  go_wp2
  refine bodyPost_ret (v := .agg #[.bool true, .slice va zs.length vc, .slice ma (allS zs ss).length mc]) (by simp [results, Try.results52, go_sem, x0, x1, x2]) rfl ⟨va, vc, ma, mc, rfl, ?_, ?_, ?_⟩
  · have h1 := (((hva3.set ⟨q2, 2, none⟩ (.slice ma (allS zs ss).length mc) (.inr (Nat.le_refl _))).set ⟨w.heap.size + 1, 0, none⟩ (.bool true) (.inl hq)).set ⟨w.heap.size + 1, 1, none⟩ (.slice va zs.length vc) (.inl hq)).set ⟨w.heap.size + 1, 2, none⟩ (.slice ma (allS zs ss).length mc) (.inl hq)
    exact h1.widen HB1.out (by simp; omega)
  · have h1 := (((hma3.set ⟨q2, 2, none⟩ (.slice ma (allS zs ss).length mc) (.inl (Nat.lt_succ_self _))).set ⟨w.heap.size + 1, 0, none⟩ (.bool true) (.inl (Nat.lt_succ_of_lt hq2))).set ⟨w.heap.size + 1, 1, none⟩ (.slice va zs.length vc) (.inl (Nat.lt_succ_of_lt hq2))).set ⟨w.heap.size + 1, 2, none⟩ (.slice ma (allS zs ss).length mc) (.inl (Nat.lt_succ_of_lt hq2))
    exact h1.widen (by omega) (by simp)
  · exact grow_set (grow_set (grow_set (grow_set B3 (by simp; omega) _) (by simp) _) (by simp) _) (by simp) _

set_option maxRecDepth 100000 in
theorem outcome_ok2 (w : World) (ht : IsTx w ra ga sa rs gs ss) (hz : IsInts w za zs) (h4 : zs.length ≤ 4) (hlen : zs.length = rs.length) (hg0 : firstNZ (gs.map (gErr rs.length)) = 0) (hs0 : firstNZ (ss.map (sErr rs.length)) = 0) (h3 : ss.length ≤ 3) :
    Calls Try.prog 52 #[.agg #[.slice ra rs.length rc, .slice ga gs.length gc, .slice sa ss.length sc], .slice za zs.length zc] w fun e w' => ∃ va vc ma mc, e = .returned (.agg #[.bool (allG zs gs), .slice va zs.length vc, .slice ma (madeOf zs gs ss).length mc]) ∧ IsAt w.heap.size w'.heap.size w' va zs ∧ IsAt w.heap.size w'.heap.size w' ma (madeOf zs gs ss) ∧ Below w.heap.size w w' := by
  by_cases hd : allG zs gs = true
  · have hm : madeOf zs gs ss = allS zs ss := by unfold madeOf; rw [if_pos hd]
    rw [hm, hd]
    exact outcome_yes2 ra ga sa rc gc sc rs gs ss za zc zs w ht hz h4 hlen hg0 hs0 h3 hd
  · have hm : madeOf zs gs ss = [] := by unfold madeOf; rw [if_neg hd]
    have hd' : allG zs gs = false := by simpa using hd
    rw [hm, hd']
    exact (outcome_no2 ra ga sa rc gc sc rs gs ss za zc zs w ht hz h4 hlen hg0 hd').mono fun _ _ ⟨va, vc, he, h1, h2⟩ => ⟨va, vc, none, 0, he, h1, fun i hi => absurd hi (by simp), h2⟩
set_option maxRecDepth 100000 in
set_option maxHeartbeats 4000000 in
theorem run1_ok2 (p r : Nat) (w : World) (h0 : w.cell? ⟨p, 0, none⟩ = some (.slice ra rs.length rc)) (h1 : w.cell? ⟨p, 1, none⟩ = some (.slice ga gs.length gc)) (h2 : w.cell? ⟨p, 2, none⟩ = some (.slice sa ss.length sc)) (h5 : w.cell? ⟨r, 0, none⟩ = some (.slice za zs.length zc)) (ht : IsTx w ra ga sa rs gs ss) (hz : IsInts w za zs) (he : firstNZ [chkTx rs gs ss, countE rs zs] = 0) (hg0 : firstNZ (gs.map (gErr rs.length)) = 0) (hs0 : firstNZ (ss.map (sErr rs.length)) = 0) (h3 : ss.length ≤ 3) (h4 : zs.length ≤ 4) (hlen : zs.length = rs.length) :
    Calls Try.prog 49 #[.pointer (some ⟨p, 0, none⟩), .pointer (some ⟨r, 0, none⟩)] w fun e w' => ∃ va vc ma mc, e = .returned (.agg #[.bool (allG zs gs), .slice va zs.length vc, .slice ma (madeOf zs gs ss).length mc]) ∧ IsAt w.heap.size w'.heap.size w' va zs ∧ IsAt w.heap.size w'.heap.size w' ma (madeOf zs gs ss) ∧ Below w.heap.size w w' := by
  have HE : Hid (firstNZ [chkTx rs gs ss, countE rs zs] = 0) := he
  have HG : Hid (firstNZ (gs.map (gErr rs.length)) = 0) := hg0
  have HS : Hid (firstNZ (ss.map (sErr rs.length)) = 0) := hs0
  have HL : Hid (zs.length = rs.length) := hlen
  clear he hg0 hs0 hlen
  have hW : Hid (Below w.heap.size w (w.alloc (.cells #[.bool false, .slice none 0 0, .slice none 0 0] 87))) := grow_alloc (Below.refl _ _) _
  have HTW : Hid (IsTx (w.alloc (.cells #[.bool false, .slice none 0 0, .slice none 0 0] 87)) ra ga sa rs gs ss) := ht.below hW.out
  have HZW : Hid (IsInts (w.alloc (.cells #[.bool false, .slice none 0 0, .slice none 0 0] 87)) za zs) := hz.below hW.out
  have y0 := ext_cell hW.out h0
  have y1 := ext_cell hW.out h1
  have y2 := ext_cell hW.out h2
  have y5 := ext_cell hW.out h5
  have v0 : (w.alloc (.cells #[.bool false, .slice none 0 0, .slice none 0 0] 87)).cell? ⟨w.heap.size, 0, none⟩ = some (.bool false) := by simp
  have v1 : (w.alloc (.cells #[.bool false, .slice none 0 0, .slice none 0 0] 87)).cell? ⟨w.heap.size, 1, none⟩ = some (.slice none 0 0) := by simp
  have v2 : (w.alloc (.cells #[.bool false, .slice none 0 0, .slice none 0 0] 87)).cell? ⟨w.heap.size, 2, none⟩ = some (.slice none 0 0) := by simp
  have vf : ∀ j, (w.alloc (.cells #[.bool false, .slice none 0 0, .slice none 0 0] 87)).frozen? ⟨w.heap.size, j, none⟩ = false := fun j => by simp
  have hqW : w.heap.size < (w.alloc (.cells #[.bool false, .slice none 0 0, .slice none 0 0] 87)).heap.size := by simp
  clear ht hz h0 h1 h2 h5
  go_enter Try.func49, Try.ntmps49
  go_wp2_with fail
  generalize w.alloc (.cells #[.bool false, .slice none 0 0, .slice none 0 0] 87) = W at *
  go_region_held3 (fun w' => Below W.heap.size W w' ∧ w'.cell? ⟨p, 0, none⟩ = some (.slice ra rs.length rc) ∧ w'.cell? ⟨p, 1, none⟩ = some (.slice ga gs.length gc) ∧ w'.cell? ⟨p, 2, none⟩ = some (.slice sa ss.length sc) ∧ w'.cell? ⟨r, 0, none⟩ = some (.slice za zs.length zc)) ((go_split_ands; refine ext4 ?_ y0 y1 y2 y5; repeat (first | assumption | exact Below.refl _ _ | refine grow_drew ?_ | refine grow_alloc ?_ _ | refine grow_trans ?_ (by assumption))))
    (first
      | (go_at_call 50; refine (txnCheck_any ra ga sa rc gc sc rs gs ss _ ?_).mono ?_; (refine HTW.out.below ?_; go_split_ands; repeat (first | assumption | exact Below.refl _ _ | refine grow_drew ?_ | refine grow_alloc ?_ _ | refine grow_trans ?_ (by assumption))); rintro e w' ⟨rfl, hbx⟩)
      | (go_at_call 51; refine (countError_any ra ga sa rc gc sc rs gs ss za zc zs _).mono ?_; rintro e w' ⟨rfl, rfl⟩)
      | (go_at_call 25; refine (leave_zero [chkTx rs gs ss, countE rs zs] _ 2 _ (by simp) HE.out ?_).mono ?_; (exact errs2 _ _ _ _ (by simp)); rintro e w' ⟨rfl, rfl⟩))
  go_split_ands
  go_wp2_with fail
  refine (outcome_ok2 ra ga sa rc gc sc rs gs ss za zc zs _ (HTW.out.below ?_) (HZW.out.below ?_) h4 HL.out HG.out HS.out h3).mono ?_
  · assumption
  · assumption
  rintro e w2 ⟨va, vc, ma, mc, rfl, hva, hma, hb2⟩
  have hb3 : Below W.heap.size W w2 := by
    refine grow_trans ?_ hb2
    assumption
  have hva' : IsAt (w.heap.size + 1) w2.heap.size w2 va zs := hva.widen (Nat.le_trans hqW (Below.size (B := W.heap.size) (by assumption))) (Nat.le_refl _)
  have hma' : IsAt (w.heap.size + 1) w2.heap.size w2 ma (madeOf zs gs ss) := hma.widen (Nat.le_trans hqW (Below.size (B := W.heap.size) (by assumption))) (Nat.le_refl _)
  have x0 := ext_cell hb3 v0
  have x1 := ext_cell hb3 v1
  have x2 := ext_cell hb3 v2
  have xf : ∀ j, w2.frozen? ⟨w.heap.size, j, none⟩ = false := fun j => (hb3.frozen (p := ⟨w.heap.size, j, none⟩) hqW).trans (vf j)
  have B3 := grow_trans hW.out hb3
  clear hva hma hb2 v0 v1 v2 vf HTW HZW
  go_wp2
  refine bodyPost_ret (v := .agg #[.bool (allG zs gs), .slice va zs.length vc, .slice ma (madeOf zs gs ss).length mc]) (by simp [results, Try.results49, go_sem, x0, x1, x2]) rfl ⟨va, vc, ma, mc, rfl, ?_, ?_, ?_⟩
  · have h1 := ((hva'.set ⟨w.heap.size, 0, none⟩ (.bool (allG zs gs)) (.inl (Nat.lt_succ_self _))).set ⟨w.heap.size, 1, none⟩ (.slice va zs.length vc) (.inl (Nat.lt_succ_self _))).set ⟨w.heap.size, 2, none⟩ (.slice ma (madeOf zs gs ss).length mc) (.inl (Nat.lt_succ_self _))
    exact h1.widen (by omega) (by simp)
  · have h1 := ((hma'.set ⟨w.heap.size, 0, none⟩ (.bool (allG zs gs)) (.inl (Nat.lt_succ_self _))).set ⟨w.heap.size, 1, none⟩ (.slice va zs.length vc) (.inl (Nat.lt_succ_self _))).set ⟨w.heap.size, 2, none⟩ (.slice ma (madeOf zs gs ss).length mc) (.inl (Nat.lt_succ_self _))
    exact h1.widen (by omega) (by simp)
  · exact grow_set (grow_set (grow_set B3 (Nat.le_refl _) _) (Nat.le_refl _) _) (Nat.le_refl _) _

set_option maxRecDepth 100000 in
theorem txnRun_any2 (w : World) (ht : IsTx w ra ga sa rs gs ss) (hz : IsInts w za zs) :
    Calls Try.prog 15 #[.agg #[.slice ra rs.length rc, .slice ga gs.length gc, .slice sa ss.length sc], .slice za zs.length zc] w fun e w' => ∃ va vc ma mc, e = .returned (.tuple #[.agg #[.bool (runD rs gs ss zs), .slice va (runV rs gs ss zs).length vc], .slice ma (runM rs gs ss zs).length mc, .int .i64 (runE rs gs ss zs)]) ∧ IsAt w.heap.size w'.heap.size w' va (runV rs gs ss zs) ∧ IsAt w.heap.size w'.heap.size w' ma (runM rs gs ss zs) ∧ Below w.heap.size w w' := by
  obtain ⟨h0, h1, h2, h5⟩ := run_cells ra ga sa rc gc sc rs gs ss za zc zs w (.cells #[.bool false, .slice none 0 0, .slice none 0 0] 87) (.cells #[.int .i64 0] 25)
  have hg : Below w.heap.size w (((((w.alloc (.cells #[.slice ra rs.length rc, .slice ga gs.length gc, .slice sa ss.length sc] 38)).alloc (.cells #[.slice za zs.length zc] 22)).alloc (.cells #[.bool false, .slice none 0 0] 40)).alloc (.cells #[.bool false, .slice none 0 0, .slice none 0 0] 87)).alloc (.cells #[.int .i64 0] 25)) := grow_alloc (grow_alloc (grow_alloc (grow_alloc (grow_alloc (Below.refl _ _) _) _) _) _) _
  by_cases he : runE rs gs ss zs = 0
  · obtain ⟨hc, hlen⟩ := runE_zero he
    obtain ⟨hm, _, hgg, hss⟩ := chk_parts hc
    obtain ⟨h4, _, h3, _⟩ := many_small _ _ _ hm
    have e1 : runD rs gs ss zs = allG zs gs := if_pos he
    have e2 : runV rs gs ss zs = zs := if_pos he
    have e3 : runM rs gs ss zs = madeOf zs gs ss := if_pos he
    rw [e1, e2, e3, he]
    exact run_by ra ga sa rc gc sc rs gs ss za zc zs _ _ _ _ w (caught_o_ret _ _ _ _ _ (run1_ok2 ra ga sa rc gc sc rs gs ss za zc zs _ _ _ h0 h1 h2 h5 (ht.below hg) (hz.below hg) he hgg hss h3 (by omega) hlen))
  · have e1 : runD rs gs ss zs = false := if_neg he
    have e2 : runV rs gs ss zs = [] := if_neg he
    have e3 : runM rs gs ss zs = [] := if_neg he
    rw [e1, e2, e3]
    refine run_by ra ga sa rc gc sc rs gs ss za zc zs _ _ _ _ w ((caught_o_pan _ _ _ (run1_pan ra ga sa rc gc sc rs gs ss za zc zs _ _ _ h0 h1 h2 h5 (ht.below hg) (hz.below hg) he)).mono ?_)
    exact fun _ _ ⟨x1, x2⟩ => ⟨none, 0, none, 0, x1, fun i hi => absurd hi (by simp), fun i hi => absurd hi (by simp), x2⟩
end Go.Proofs.Ytcgpkonfneofdaa
