/-
  txn.Run answers what the document says: the first error, or whether the guards hold, a copy of the values, and what the sets make.
  Conditions: the transaction and the values can be read; a nil list has no room.
-/
import Derived.Test.YtcgpkonfneofdaaTxnJ
import Derived.WalkKit
import Derived.WalkSpells
import Derived.WalkLawsBesides
import Derived.Defers
import Derived.Recover
import Derived.ProofKit
import Derived.Deep.RegionHeld
import Derived.Deep.RegionHeld3
import Derived.BigQuiet
namespace Go.Proofs.Ytcgpkonfneofdaa
open Go.RowKit

/-- ErrRange, unless there are as many values as reads. -/
def countE (rs zs : List Int) : Int := if zs.length = rs.length then 0 else 3

set_option maxRecDepth 100000 in
theorem new_two (w : World) (x y : Value) (T : TypeId) (s : Nat) (hs : s = w.heap.size) : (w.alloc (.cells #[x, y] T)).cell? ⟨s, 0, none⟩ = some x ∧ (w.alloc (.cells #[x, y] T)).cell? ⟨s, 1, none⟩ = some y ∧ ∀ j, (w.alloc (.cells #[x, y] T)).frozen? ⟨s, j, none⟩ = false := by
  subst hs
  exact ⟨by simp, by simp, fun j => by simp⟩

set_option maxRecDepth 100000 in
theorem ext4 {W w' : World} {p1 p2 p3 p4 : Addr} {v1 v2 v3 v4 : Value} (hb : Below W.heap.size W w') (q1 : W.cell? p1 = some v1) (q2 : W.cell? p2 = some v2) (q3 : W.cell? p3 = some v3) (q4 : W.cell? p4 = some v4) :
    Below W.heap.size W w' ∧ w'.cell? p1 = some v1 ∧ w'.cell? p2 = some v2 ∧ w'.cell? p3 = some v3 ∧ w'.cell? p4 = some v4 := ⟨hb, ext_cell hb q1, ext_cell hb q2, ext_cell hb q3, ext_cell hb q4⟩

variable (ra ga sa : Option Addr) (rc gc sc : Nat) (rs : List Int) (gs : List Gd) (ss : List St) (za : Option Addr) (zc : Nat) (zs : List Int)

set_option maxRecDepth 100000 in
theorem countError_any (w : World) :
    Calls Try.prog 51 #[.agg #[.slice ra rs.length rc, .slice ga gs.length gc, .slice sa ss.length sc], .slice za zs.length zc] w fun e w' => e = .returned (.int .i64 (countE rs zs)) ∧ w' = w.alloc (.cells #[.slice ra rs.length rc, .slice ga gs.length gc, .slice sa ss.length sc] 38) := by
  by_cases h : zs.length = rs.length
  · have hv : Hid (countE rs zs = 0) := if_pos h
    have hb : ((zs.length : Int) != (rs.length : Int)) = false := by simp [h]
    clear h
    go_enter Try.func51, Try.ntmps51
    go_wp2
    go_ret
    exact ⟨by rw [hv.out]; rfl, rfl⟩
  · have hv : Hid (countE rs zs = 3) := if_neg h
    have hb : ((zs.length : Int) != (rs.length : Int)) = true := by simp; omega
    clear h
    go_enter Try.func51, Try.ntmps51
    go_wp2
    go_ret
    exact ⟨by rw [hv.out]; rfl, rfl⟩

set_option maxRecDepth 100000 in
set_option maxHeartbeats 2000000 in
theorem run1_pan (p r : Nat) (w : World) (h0 : w.cell? ⟨p, 0, none⟩ = some (.slice ra rs.length rc)) (h1 : w.cell? ⟨p, 1, none⟩ = some (.slice ga gs.length gc)) (h2 : w.cell? ⟨p, 2, none⟩ = some (.slice sa ss.length sc)) (h5 : w.cell? ⟨r, 0, none⟩ = some (.slice za zs.length zc)) (ht : IsTx w ra ga sa rs gs ss) (hz : IsInts w za zs) (he : ¬ firstNZ [chkTx rs gs ss, countE rs zs] = 0) :
    Calls Try.prog 49 #[.pointer (some ⟨p, 0, none⟩), .pointer (some ⟨r, 0, none⟩)] w fun e w' => e = .panicked [{ v := .iface 25 (.int .i64 (firstNZ [chkTx rs gs ss, countE rs zs])), recovered := false }] ∧ Below w.heap.size w w' := by
  have HE : Hid (¬ firstNZ [chkTx rs gs ss, countE rs zs] = 0) := he
  clear he
  have hW : Hid (Below w.heap.size w (w.alloc (.cells #[.bool false, .slice none 0 0, .slice none 0 0] 87))) := grow_alloc (Below.refl _ _) _
  have HTW : Hid (IsTx (w.alloc (.cells #[.bool false, .slice none 0 0, .slice none 0 0] 87)) ra ga sa rs gs ss) := ht.below hW.out
  have HZW : Hid (IsInts (w.alloc (.cells #[.bool false, .slice none 0 0, .slice none 0 0] 87)) za zs) := hz.below hW.out
  have y0 := ext_cell hW.out h0
  have y1 := ext_cell hW.out h1
  have y2 := ext_cell hW.out h2
  have y5 := ext_cell hW.out h5
  have v0 : (w.alloc (.cells #[.bool false, .slice none 0 0, .slice none 0 0] 87)).cell? ⟨w.heap.size, 0, none⟩ = some (.bool false) := by simp
  have v1 : (w.alloc (.cells #[.bool false, .slice none 0 0, .slice none 0 0] 87)).cell? ⟨w.heap.size, 1, none⟩ = some (.slice none 0 0) := by simp
  have v2 : (w.alloc (.cells #[.bool false, .slice none 0 0, .slice none 0 0] 87)).cell? ⟨w.heap.size, 2, none⟩ = some (.slice none 0 0) := by simp
  have vf : ∀ j, (w.alloc (.cells #[.bool false, .slice none 0 0, .slice none 0 0] 87)).frozen? ⟨w.heap.size, j, none⟩ = false := fun j => by simp
  have hqW : w.heap.size < (w.alloc (.cells #[.bool false, .slice none 0 0, .slice none 0 0] 87)).heap.size := by simp
  clear ht hz h0 h1 h2 h5
  go_enter Try.func49, Try.ntmps49
  go_wp2_with fail
  generalize w.alloc (.cells #[.bool false, .slice none 0 0, .slice none 0 0] 87) = W at *
  clear v0 v1 v2 vf
  go_region_held (fun w' => Below W.heap.size W w' ∧ w'.cell? ⟨p, 0, none⟩ = some (.slice ra rs.length rc) ∧ w'.cell? ⟨p, 1, none⟩ = some (.slice ga gs.length gc) ∧ w'.cell? ⟨p, 2, none⟩ = some (.slice sa ss.length sc) ∧ w'.cell? ⟨r, 0, none⟩ = some (.slice za zs.length zc)) ((go_split_ands; refine ext4 ?_ y0 y1 y2 y5; repeat (first | assumption | exact Below.refl _ _ | refine grow_drew ?_ | refine grow_alloc ?_ _ | refine grow_trans ?_ (by assumption))))
    (first
      | (go_at_call 50; refine (txnCheck_any ra ga sa rc gc sc rs gs ss _ ?_).mono ?_; (refine HTW.out.below ?_; go_split_ands; repeat (first | assumption | exact Below.refl _ _ | refine grow_drew ?_ | refine grow_alloc ?_ _ | refine grow_trans ?_ (by assumption))); rintro e w' ⟨rfl, hbx⟩)
      | (go_at_call 51; refine (countError_any ra ga sa rc gc sc rs gs ss za zc zs _).mono ?_; rintro e w' ⟨rfl, rfl⟩)
      | (go_at_call 25; refine (panic_or (leave_nz [chkTx rs gs ss, countE rs zs] _ 2 _ (by simp) HE.out ?_) (.tuple #[])).mono ?_; (exact errs2 _ _ _ _ (by simp)); rintro e w' (⟨rfl, rfl⟩ | ⟨hF, rfl, rfl⟩); (refine ⟨rfl, rfl, grow_trans hW.out ?_⟩; go_split_ands; repeat (first | assumption | exact Below.refl _ _ | refine grow_drew ?_ | refine grow_alloc ?_ _ | refine grow_trans ?_ (by assumption)))))
  exact (‹Hid False› : Hid False).out.elim

set_option maxRecDepth 100000 in
set_option maxHeartbeats 4000000 in
theorem run1_ok (p r : Nat) (w : World) (h0 : w.cell? ⟨p, 0, none⟩ = some (.slice ra rs.length rc)) (h1 : w.cell? ⟨p, 1, none⟩ = some (.slice ga gs.length gc)) (h2 : w.cell? ⟨p, 2, none⟩ = some (.slice sa ss.length sc)) (h5 : w.cell? ⟨r, 0, none⟩ = some (.slice za zs.length zc)) (ht : IsTx w ra ga sa rs gs ss) (hz : IsInts w za zs) (hn : za = none → zc = 0) (he : firstNZ [chkTx rs gs ss, countE rs zs] = 0) (hg0 : firstNZ (gs.map (gErr rs.length)) = 0) (hs0 : firstNZ (ss.map (sErr rs.length)) = 0) (h3 : ss.length ≤ 3) (h4 : zs.length ≤ 4) (hlen : zs.length = rs.length) :
    Calls Try.prog 49 #[.pointer (some ⟨p, 0, none⟩), .pointer (some ⟨r, 0, none⟩)] w fun e w' => ∃ va vc ma mc, e = .returned (.agg #[.bool (allG zs gs), .slice va zs.length vc, .slice ma (madeOf zs gs ss).length mc]) ∧ IsAt w.heap.size w'.heap.size w' va zs ∧ IsAt w.heap.size w'.heap.size w' ma (madeOf zs gs ss) ∧ Below w.heap.size w w' := by
  have HE : Hid (firstNZ [chkTx rs gs ss, countE rs zs] = 0) := he
  have HG : Hid (firstNZ (gs.map (gErr rs.length)) = 0) := hg0
  have HS : Hid (firstNZ (ss.map (sErr rs.length)) = 0) := hs0
  have HL : Hid (zs.length = rs.length) := hlen
  have HN : Hid (za = none → zc = 0) := hn
  clear he hg0 hs0 hlen hn
  have hW : Hid (Below w.heap.size w (w.alloc (.cells #[.bool false, .slice none 0 0, .slice none 0 0] 87))) := grow_alloc (Below.refl _ _) _
  have HTW : Hid (IsTx (w.alloc (.cells #[.bool false, .slice none 0 0, .slice none 0 0] 87)) ra ga sa rs gs ss) := ht.below hW.out
  have HZW : Hid (IsInts (w.alloc (.cells #[.bool false, .slice none 0 0, .slice none 0 0] 87)) za zs) := hz.below hW.out
  have y0 := ext_cell hW.out h0
  have y1 := ext_cell hW.out h1
  have y2 := ext_cell hW.out h2
  have y5 := ext_cell hW.out h5
  have v0 : (w.alloc (.cells #[.bool false, .slice none 0 0, .slice none 0 0] 87)).cell? ⟨w.heap.size, 0, none⟩ = some (.bool false) := by simp
  have v1 : (w.alloc (.cells #[.bool false, .slice none 0 0, .slice none 0 0] 87)).cell? ⟨w.heap.size, 1, none⟩ = some (.slice none 0 0) := by simp
  have v2 : (w.alloc (.cells #[.bool false, .slice none 0 0, .slice none 0 0] 87)).cell? ⟨w.heap.size, 2, none⟩ = some (.slice none 0 0) := by simp
  have vf : ∀ j, (w.alloc (.cells #[.bool false, .slice none 0 0, .slice none 0 0] 87)).frozen? ⟨w.heap.size, j, none⟩ = false := fun j => by simp
  have hqW : w.heap.size < (w.alloc (.cells #[.bool false, .slice none 0 0, .slice none 0 0] 87)).heap.size := by simp
  clear ht hz h0 h1 h2 h5
  go_enter Try.func49, Try.ntmps49
  go_wp2_with fail
  generalize w.alloc (.cells #[.bool false, .slice none 0 0, .slice none 0 0] 87) = W at *
  go_region_held3 (fun w' => Below W.heap.size W w' ∧ w'.cell? ⟨p, 0, none⟩ = some (.slice ra rs.length rc) ∧ w'.cell? ⟨p, 1, none⟩ = some (.slice ga gs.length gc) ∧ w'.cell? ⟨p, 2, none⟩ = some (.slice sa ss.length sc) ∧ w'.cell? ⟨r, 0, none⟩ = some (.slice za zs.length zc)) ((go_split_ands; refine ext4 ?_ y0 y1 y2 y5; repeat (first | assumption | exact Below.refl _ _ | refine grow_drew ?_ | refine grow_alloc ?_ _ | refine grow_trans ?_ (by assumption))))
    (first
      | (go_at_call 50; refine (txnCheck_any ra ga sa rc gc sc rs gs ss _ ?_).mono ?_; (refine HTW.out.below ?_; go_split_ands; repeat (first | assumption | exact Below.refl _ _ | refine grow_drew ?_ | refine grow_alloc ?_ _ | refine grow_trans ?_ (by assumption))); rintro e w' ⟨rfl, hbx⟩)
      | (go_at_call 51; refine (countError_any ra ga sa rc gc sc rs gs ss za zc zs _).mono ?_; rintro e w' ⟨rfl, rfl⟩)
      | (go_at_call 25; refine (leave_zero [chkTx rs gs ss, countE rs zs] _ 2 _ (by simp) HE.out ?_).mono ?_; (exact errs2 _ _ _ _ (by simp)); rintro e w' ⟨rfl, rfl⟩))
  go_split_ands
  go_wp2_with fail
  refine (outcome_ok ra ga sa rc gc sc rs gs ss za zc zs _ (HTW.out.below ?_) (HZW.out.below ?_) HN.out h4 HL.out HG.out HS.out h3).mono ?_
  · assumption
  · assumption
  rintro e w2 ⟨va, vc, ma, mc, rfl, hva, hma, hb2⟩
  have hb3 : Below W.heap.size W w2 := by
    refine grow_trans ?_ hb2
    assumption
  have hva' : IsAt (w.heap.size + 1) w2.heap.size w2 va zs := hva.widen (Nat.le_trans hqW (Below.size (B := W.heap.size) (by assumption))) (Nat.le_refl _)
  have hma' : IsAt (w.heap.size + 1) w2.heap.size w2 ma (madeOf zs gs ss) := hma.widen (Nat.le_trans hqW (Below.size (B := W.heap.size) (by assumption))) (Nat.le_refl _)
  have x0 := ext_cell hb3 v0
  have x1 := ext_cell hb3 v1
  have x2 := ext_cell hb3 v2
  have xf : ∀ j, w2.frozen? ⟨w.heap.size, j, none⟩ = false := fun j => (hb3.frozen (p := ⟨w.heap.size, j, none⟩) hqW).trans (vf j)
  have B3 := grow_trans hW.out hb3
  clear hva hma hb2 v0 v1 v2 vf HTW HZW
  go_wp2
  refine bodyPost_ret (v := .agg #[.bool (allG zs gs), .slice va zs.length vc, .slice ma (madeOf zs gs ss).length mc]) (by simp [results, Try.results49, go_sem, x0, x1, x2]) rfl ⟨va, vc, ma, mc, rfl, ?_, ?_, ?_⟩
  · have h1 := ((hva'.set ⟨w.heap.size, 0, none⟩ (.bool (allG zs gs)) (.inl (Nat.lt_succ_self _))).set ⟨w.heap.size, 1, none⟩ (.slice va zs.length vc) (.inl (Nat.lt_succ_self _))).set ⟨w.heap.size, 2, none⟩ (.slice ma (madeOf zs gs ss).length mc) (.inl (Nat.lt_succ_self _))
    exact h1.widen (by omega) (by simp)
  · have h1 := ((hma'.set ⟨w.heap.size, 0, none⟩ (.bool (allG zs gs)) (.inl (Nat.lt_succ_self _))).set ⟨w.heap.size, 1, none⟩ (.slice va zs.length vc) (.inl (Nat.lt_succ_self _))).set ⟨w.heap.size, 2, none⟩ (.slice ma (madeOf zs gs ss).length mc) (.inl (Nat.lt_succ_self _))
    exact h1.widen (by omega) (by simp)
  · exact grow_set (grow_set (grow_set B3 (Nat.le_refl _) _) (Nat.le_refl _) _) (Nat.le_refl _) _

set_option maxRecDepth 100000 in
set_option maxHeartbeats 1000000 in
theorem caught_o_ret (cap : Array Value) (d : Bool) (zs made : List Int) (w : World)
    (h : Calls Try.prog 49 cap ((w.alloc (.cells #[.bool false, .slice none 0 0, .slice none 0 0] 87)).alloc (.cells #[.int .i64 0] 25)) fun e w' => ∃ va vc ma mc, e = .returned (.agg #[.bool d, .slice va zs.length vc, .slice ma made.length mc]) ∧ IsAt ((w.alloc (.cells #[.bool false, .slice none 0 0, .slice none 0 0] 87)).alloc (.cells #[.int .i64 0] 25)).heap.size w'.heap.size w' va zs ∧ IsAt ((w.alloc (.cells #[.bool false, .slice none 0 0, .slice none 0 0] 87)).alloc (.cells #[.int .i64 0] 25)).heap.size w'.heap.size w' ma made ∧ Below ((w.alloc (.cells #[.bool false, .slice none 0 0, .slice none 0 0] 87)).alloc (.cells #[.int .i64 0] 25)).heap.size ((w.alloc (.cells #[.bool false, .slice none 0 0, .slice none 0 0] 87)).alloc (.cells #[.int .i64 0] 25)) w') :
    Calls Try.prog 48 #[.func (.func 49) #[] cap] w fun e w' => ∃ va vc ma mc, e = .returned (.tuple #[.agg #[.bool d, .slice va zs.length vc, .slice ma made.length mc], .int .i64 0]) ∧ IsAt w.heap.size w'.heap.size w' va zs ∧ IsAt w.heap.size w'.heap.size w' ma made ∧ Below w.heap.size w w' := by
  have hmf : ∀ (fn : Fn) (first cap : Array Value) (w : World), (Instr.makeFunc fn first cap).run Try.prog w = .ok (.func fn first cap) w := fun _ _ _ _ => rfl
  have H : Hid (Calls Try.prog 49 cap ((w.alloc (.cells #[.bool false, .slice none 0 0, .slice none 0 0] 87)).alloc (.cells #[.int .i64 0] 25)) fun e w' => ∃ va vc ma mc, e = .returned (.agg #[.bool d, .slice va zs.length vc, .slice ma made.length mc]) ∧ IsAt ((w.alloc (.cells #[.bool false, .slice none 0 0, .slice none 0 0] 87)).alloc (.cells #[.int .i64 0] 25)).heap.size w'.heap.size w' va zs ∧ IsAt ((w.alloc (.cells #[.bool false, .slice none 0 0, .slice none 0 0] 87)).alloc (.cells #[.int .i64 0] 25)).heap.size w'.heap.size w' ma made ∧ Below ((w.alloc (.cells #[.bool false, .slice none 0 0, .slice none 0 0] 87)).alloc (.cells #[.int .i64 0] 25)).heap.size ((w.alloc (.cells #[.bool false, .slice none 0 0, .slice none 0 0] 87)).alloc (.cells #[.int .i64 0] 25)) w') := h
  clear h
  go_enter_defers Try.func48, Try.ntmps48
  go_wp2_with fail
  refine H.out.mono ?_
  clear H
  rintro e w1 ⟨va, vc, ma, mc, rfl, hva, hma, hb⟩
  have e0 : w1.cell? ⟨w.heap.size + 1, 0, none⟩ = some (.int .i64 0) := (hb.cell (by simp)).trans (by simp)
  have ef : ∀ j, w1.frozen? ⟨w.heap.size + 1, j, none⟩ = false := fun j => (hb.frozen (p := ⟨w.heap.size + 1, j, none⟩) (by simp)).trans (by simp)
  have c0 : w1.cell? ⟨w.heap.size, 0, none⟩ = some (.bool false) := (hb.cell (by simp; omega)).trans ((World.cell?_alloc_lt _ _ _ (by simp)).trans (by simp))
  have c1 : w1.cell? ⟨w.heap.size, 1, none⟩ = some (.slice none 0 0) := (hb.cell (by simp; omega)).trans ((World.cell?_alloc_lt _ _ _ (by simp)).trans (by simp))
  have c2 : w1.cell? ⟨w.heap.size, 2, none⟩ = some (.slice none 0 0) := (hb.cell (by simp; omega)).trans ((World.cell?_alloc_lt _ _ _ (by simp)).trans (by simp))
  have cf : ∀ j, w1.frozen? ⟨w.heap.size, j, none⟩ = false := fun j => (hb.frozen (p := ⟨w.heap.size, j, none⟩) (by simp; omega)).trans (((grow_alloc (Below.refl (w.alloc (.cells #[.bool false, .slice none 0 0, .slice none 0 0] 87)).heap.size (w.alloc (.cells #[.bool false, .slice none 0 0, .slice none 0 0] 87))) (.cells #[.int .i64 0] 25)).frozen (p := ⟨w.heap.size, j, none⟩) (by simp)).trans (by simp))
  have hva' : IsAt (w.heap.size + 2) w1.heap.size w1 va zs := hva.widen (by simp) (Nat.le_refl _)
  have hma' : IsAt (w.heap.size + 2) w1.heap.size w1 ma made := hma.widen (by simp) (Nat.le_refl _)
  have B1 : Below w.heap.size w w1 := grow_trans (grow_alloc (grow_alloc (Below.refl _ _) _) _) hb
  clear hb hva hma
  go_wp2
  refine leaves_cons (f := 76) (args := #[.pointer (some ⟨w.heap.size + 1, 0, none⟩)]) (by simp) (by simp [go_sem]) ?_
  refine (catch69_idle ⟨w.heap.size + 1, 0, none⟩ _).mono ?_
  rintro e u' w'' ⟨rfl, rfl, rfl⟩
  simp [Leaves, settle, results, Try.results48, go_sem, e0, c0, c1, c2]
  refine ⟨va, vc, ma, ⟨⟨rfl, rfl⟩, rfl⟩, ?_, ?_, ?_⟩
  · have h1 := (((hva'.set ⟨w.heap.size, 0, none⟩ (.bool d) (.inl (by simp))).set ⟨w.heap.size, 1, none⟩ (.slice va zs.length vc) (.inl (by simp))).set ⟨w.heap.size, 2, none⟩ (.slice ma made.length mc) (.inl (by simp))).set ⟨w.heap.size + 1, 0, none⟩ (.int .i64 0) (.inl (by simp))
    exact h1.widen (by omega) (Nat.le_refl _)
  · have h1 := (((hma'.set ⟨w.heap.size, 0, none⟩ (.bool d) (.inl (by simp))).set ⟨w.heap.size, 1, none⟩ (.slice va zs.length vc) (.inl (by simp))).set ⟨w.heap.size, 2, none⟩ (.slice ma made.length mc) (.inl (by simp))).set ⟨w.heap.size + 1, 0, none⟩ (.int .i64 0) (.inl (by simp))
    exact h1.widen (by omega) (Nat.le_refl _)
  · exact grow_set (grow_set (grow_set (grow_set B1 (Nat.le_refl _) _) (Nat.le_refl _) _) (Nat.le_refl _) _) (by simp) _

set_option maxRecDepth 100000 in
set_option maxHeartbeats 1000000 in
theorem caught_o_pan (cap : Array Value) (x : Int) (w : World)
    (h : Calls Try.prog 49 cap ((w.alloc (.cells #[.bool false, .slice none 0 0, .slice none 0 0] 87)).alloc (.cells #[.int .i64 0] 25)) fun e w' => e = .panicked [{ v := .iface 25 (.int .i64 x), recovered := false }] ∧ Below ((w.alloc (.cells #[.bool false, .slice none 0 0, .slice none 0 0] 87)).alloc (.cells #[.int .i64 0] 25)).heap.size ((w.alloc (.cells #[.bool false, .slice none 0 0, .slice none 0 0] 87)).alloc (.cells #[.int .i64 0] 25)) w') :
    Calls Try.prog 48 #[.func (.func 49) #[] cap] w fun e w' => e = .returned (.tuple #[.agg #[.bool false, .slice none 0 0, .slice none 0 0], .int .i64 x]) ∧ Below w.heap.size w w' := by
  have hmf : ∀ (fn : Fn) (first cap : Array Value) (w : World), (Instr.makeFunc fn first cap).run Try.prog w = .ok (.func fn first cap) w := fun _ _ _ _ => rfl
  have H : Hid (Calls Try.prog 49 cap ((w.alloc (.cells #[.bool false, .slice none 0 0, .slice none 0 0] 87)).alloc (.cells #[.int .i64 0] 25)) fun e w' => e = .panicked [{ v := .iface 25 (.int .i64 x), recovered := false }] ∧ Below ((w.alloc (.cells #[.bool false, .slice none 0 0, .slice none 0 0] 87)).alloc (.cells #[.int .i64 0] 25)).heap.size ((w.alloc (.cells #[.bool false, .slice none 0 0, .slice none 0 0] 87)).alloc (.cells #[.int .i64 0] 25)) w') := h
  clear h
  go_enter_defers Try.func48, Try.ntmps48
  go_wp2_with fail
  refine H.out.mono ?_
  clear H
  rintro e w1 ⟨rfl, hb⟩
  have e0 : w1.cell? ⟨w.heap.size + 1, 0, none⟩ = some (.int .i64 0) := (hb.cell (by simp)).trans (by simp)
  have ef : w1.frozen? ⟨w.heap.size + 1, 0, none⟩ = false := (hb.frozen (p := ⟨w.heap.size + 1, 0, none⟩) (by simp)).trans (by simp)
  have c0 : w1.cell? ⟨w.heap.size, 0, none⟩ = some (.bool false) := (hb.cell (by simp; omega)).trans ((World.cell?_alloc_lt _ _ _ (by simp)).trans (by simp))
  have c1 : w1.cell? ⟨w.heap.size, 1, none⟩ = some (.slice none 0 0) := (hb.cell (by simp; omega)).trans ((World.cell?_alloc_lt _ _ _ (by simp)).trans (by simp))
  have c2 : w1.cell? ⟨w.heap.size, 2, none⟩ = some (.slice none 0 0) := (hb.cell (by simp; omega)).trans ((World.cell?_alloc_lt _ _ _ (by simp)).trans (by simp))
  have B1 : Below w.heap.size w w1 := grow_trans (grow_alloc (grow_alloc (Below.refl _ _) _) _) hb
  clear hb
  refine leaves_cons (f := 76) (args := #[.pointer (some ⟨w.heap.size + 1, 0, none⟩)]) (by simp) (by simp [go_sem]) ?_
  refine (catch69_panicking ⟨w.heap.size + 1, 0, none⟩ x 0 [] _ e0 ef).mono ?_
  rintro e u' w'' ⟨rfl, rfl, rfl⟩
  simp [Leaves, settle, results, Try.results48, go_sem, e0, c0, c1, c2]
  exact grow_set B1 (by simp) _

set_option maxRecDepth 100000 in
set_option maxHeartbeats 1000000 in
theorem run_by (d : Bool) (zs' made : List Int) (x : Int) (w : World)
    (h : Calls Try.prog 48 #[.func (.func 49) #[] #[.pointer (some ⟨w.heap.size, 0, none⟩), .pointer (some ⟨w.heap.size + 1, 0, none⟩)]] (((w.alloc (.cells #[.slice ra rs.length rc, .slice ga gs.length gc, .slice sa ss.length sc] 38)).alloc (.cells #[.slice za zs.length zc] 22)).alloc (.cells #[.bool false, .slice none 0 0] 40)) fun e w' => ∃ va vc ma mc, e = .returned (.tuple #[.agg #[.bool d, .slice va zs'.length vc, .slice ma made.length mc], .int .i64 x]) ∧ IsAt (((w.alloc (.cells #[.slice ra rs.length rc, .slice ga gs.length gc, .slice sa ss.length sc] 38)).alloc (.cells #[.slice za zs.length zc] 22)).alloc (.cells #[.bool false, .slice none 0 0] 40)).heap.size w'.heap.size w' va zs' ∧ IsAt (((w.alloc (.cells #[.slice ra rs.length rc, .slice ga gs.length gc, .slice sa ss.length sc] 38)).alloc (.cells #[.slice za zs.length zc] 22)).alloc (.cells #[.bool false, .slice none 0 0] 40)).heap.size w'.heap.size w' ma made ∧ Below (((w.alloc (.cells #[.slice ra rs.length rc, .slice ga gs.length gc, .slice sa ss.length sc] 38)).alloc (.cells #[.slice za zs.length zc] 22)).alloc (.cells #[.bool false, .slice none 0 0] 40)).heap.size (((w.alloc (.cells #[.slice ra rs.length rc, .slice ga gs.length gc, .slice sa ss.length sc] 38)).alloc (.cells #[.slice za zs.length zc] 22)).alloc (.cells #[.bool false, .slice none 0 0] 40)) w') :
    Calls Try.prog 15 #[.agg #[.slice ra rs.length rc, .slice ga gs.length gc, .slice sa ss.length sc], .slice za zs.length zc] w fun e w' => ∃ va vc ma mc, e = .returned (.tuple #[.agg #[.bool d, .slice va zs'.length vc], .slice ma made.length mc, .int .i64 x]) ∧ IsAt w.heap.size w'.heap.size w' va zs' ∧ IsAt w.heap.size w'.heap.size w' ma made ∧ Below w.heap.size w w' := by
  have hmf : ∀ (fn : Fn) (first cap : Array Value) (w : World), (Instr.makeFunc fn first cap).run Try.prog w = .ok (.func fn first cap) w := fun _ _ _ _ => rfl
  have H : Hid (Calls Try.prog 48 #[.func (.func 49) #[] #[.pointer (some ⟨w.heap.size, 0, none⟩), .pointer (some ⟨w.heap.size + 1, 0, none⟩)]] (((w.alloc (.cells #[.slice ra rs.length rc, .slice ga gs.length gc, .slice sa ss.length sc] 38)).alloc (.cells #[.slice za zs.length zc] 22)).alloc (.cells #[.bool false, .slice none 0 0] 40)) fun e w' => ∃ va vc ma mc, e = .returned (.tuple #[.agg #[.bool d, .slice va zs'.length vc, .slice ma made.length mc], .int .i64 x]) ∧ IsAt (((w.alloc (.cells #[.slice ra rs.length rc, .slice ga gs.length gc, .slice sa ss.length sc] 38)).alloc (.cells #[.slice za zs.length zc] 22)).alloc (.cells #[.bool false, .slice none 0 0] 40)).heap.size w'.heap.size w' va zs' ∧ IsAt (((w.alloc (.cells #[.slice ra rs.length rc, .slice ga gs.length gc, .slice sa ss.length sc] 38)).alloc (.cells #[.slice za zs.length zc] 22)).alloc (.cells #[.bool false, .slice none 0 0] 40)).heap.size w'.heap.size w' ma made ∧ Below (((w.alloc (.cells #[.slice ra rs.length rc, .slice ga gs.length gc, .slice sa ss.length sc] 38)).alloc (.cells #[.slice za zs.length zc] 22)).alloc (.cells #[.bool false, .slice none 0 0] 40)).heap.size (((w.alloc (.cells #[.slice ra rs.length rc, .slice ga gs.length gc, .slice sa ss.length sc] 38)).alloc (.cells #[.slice za zs.length zc] 22)).alloc (.cells #[.bool false, .slice none 0 0] 40)) w') := h
  clear h
  go_enter Try.func15, Try.ntmps15
  go_wp2_with fail
  refine H.out.mono ?_
  clear H
  rintro e w1 ⟨va, vc, ma, mc, rfl, hva, hma, hb⟩
  obtain ⟨n0, n1, nf⟩ := new_two ((w.alloc (.cells #[.slice ra rs.length rc, .slice ga gs.length gc, .slice sa ss.length sc] 38)).alloc (.cells #[.slice za zs.length zc] 22)) (.bool false) (.slice none 0 0) 40 (w.heap.size + 1 + 1) (by simp)
  have c0 : w1.cell? ⟨w.heap.size + 1 + 1, 0, none⟩ = some (.bool false) := (hb.cell (by simp)).trans n0
  have c1 : w1.cell? ⟨w.heap.size + 1 + 1, 1, none⟩ = some (.slice none 0 0) := (hb.cell (by simp)).trans n1
  have cf : ∀ j, w1.frozen? ⟨w.heap.size + 1 + 1, j, none⟩ = false := fun j => (hb.frozen (p := ⟨w.heap.size + 1 + 1, j, none⟩) (by simp)).trans (nf j)
  clear n0 n1 nf
  have hq := World.block_lt_of_cell? w1 _ c0
  have hva' : IsAt (w.heap.size + 3) w1.heap.size w1 va zs' := hva.widen (by simp) (Nat.le_refl _)
  have hma' : IsAt (w.heap.size + 3) w1.heap.size w1 ma made := hma.widen (by simp) (Nat.le_refl _)
  have B1 : Below w.heap.size w w1 := grow_trans (grow_alloc (grow_alloc (grow_alloc (Below.refl _ _) _) _) _) hb
  have C0 := fun o => ext_cell (grow_alloc (Below.refl w1.heap.size w1) o) c0
  have C1 := fun o => ext_cell (grow_alloc (Below.refl w1.heap.size w1) o) c1
  have CF : ∀ o j, (w1.alloc o).frozen? ⟨w.heap.size + 1 + 1, j, none⟩ = false := fun o j => ((grow_alloc (Below.refl w1.heap.size w1) o).frozen (p := ⟨w.heap.size + 1 + 1, j, none⟩) hq).trans (cf j)
  have r0 : (((w1.setCell ⟨w.heap.size + 1 + 1, 0, none⟩ (.bool d)).setCell ⟨w.heap.size + 1 + 1, 1, none⟩ (.slice va zs'.length vc)).alloc (.cells #[.bool d, .slice va zs'.length vc, .slice ma made.length mc] 87)).cell? ⟨w.heap.size + 1 + 1, 0, none⟩ = some (.bool d) := by rw [World.cell?_alloc_lt _ _ _ (by simp; omega)]; simp [go_sem, c0]
  have r1 : (((w1.setCell ⟨w.heap.size + 1 + 1, 0, none⟩ (.bool d)).setCell ⟨w.heap.size + 1 + 1, 1, none⟩ (.slice va zs'.length vc)).alloc (.cells #[.bool d, .slice va zs'.length vc, .slice ma made.length mc] 87)).cell? ⟨w.heap.size + 1 + 1, 1, none⟩ = some (.slice va zs'.length vc) := by rw [World.cell?_alloc_lt _ _ _ (by simp; omega)]; simp [go_sem, c1]
  clear hb hva hma
  go_wp2
  go_region
  go_wp2
  refine bodyPost_ret (v := .tuple #[.agg #[.bool d, .slice va zs'.length vc], .slice ma made.length mc, .int .i64 x]) (by simp [results, Try.results15, go_sem, r0, r1]) rfl ⟨va, vc, ma, mc, rfl, ?_, ?_, ?_⟩
  · have h1 := (hva'.set ⟨w.heap.size + 1 + 1, 0, none⟩ (.bool d) (.inl (by simp))).set ⟨w.heap.size + 1 + 1, 1, none⟩ (.slice va zs'.length vc) (.inl (by simp))
    exact (h1.below (grow_drew (grow_alloc (Below.refl _ _) _))).widen (by omega) (by simp)
  · have h1 := (hma'.set ⟨w.heap.size + 1 + 1, 0, none⟩ (.bool d) (.inl (by simp))).set ⟨w.heap.size + 1 + 1, 1, none⟩ (.slice va zs'.length vc) (.inl (by simp))
    exact (h1.below (grow_drew (grow_alloc (Below.refl _ _) _))).widen (by omega) (by simp)
  · exact grow_drew (grow_alloc (grow_set (grow_set B1 (by simp; omega) _) (by simp; omega) _) _)

/-- What the document says of a run: the error, done or not, the values, what is made. -/
def runE (rs : List Int) (gs : List Gd) (ss : List St) (zs : List Int) : Int := firstNZ [chkTx rs gs ss, countE rs zs]
def runD (rs : List Int) (gs : List Gd) (ss : List St) (zs : List Int) : Bool := if runE rs gs ss zs = 0 then allG zs gs else false
def runV (rs : List Int) (gs : List Gd) (ss : List St) (zs : List Int) : List Int := if runE rs gs ss zs = 0 then zs else []
def runM (rs : List Int) (gs : List Gd) (ss : List St) (zs : List Int) : List Int := if runE rs gs ss zs = 0 then madeOf zs gs ss else []

set_option maxRecDepth 100000 in
theorem runE_zero {rs : List Int} {gs : List Gd} {ss : List St} {zs : List Int} (h : runE rs gs ss zs = 0) : chkTx rs gs ss = 0 ∧ zs.length = rs.length := by
  have h' := firstNZ_zero _ h
  have h0 : chkTx rs gs ss = 0 := by simpa using h' 0
  have h1 : countE rs zs = 0 := by simpa using h' 1
  refine ⟨h0, ?_⟩
  unfold countE at h1
  by_cases c : zs.length = rs.length
  · exact c
  · rw [if_neg c] at h1; omega

set_option maxRecDepth 100000 in
theorem chk_parts {rs : List Int} {gs : List Gd} {ss : List St} (h : chkTx rs gs ss = 0) : manyE rs.length gs.length ss.length = 0 ∧ keysE rs ss = 0 ∧ firstNZ (gs.map (gErr rs.length)) = 0 ∧ firstNZ (ss.map (sErr rs.length)) = 0 := by
  have h' := firstNZ_zero _ h
  exact ⟨by simpa using h' 0, by simpa using h' 1, by simpa using h' 2, by simpa using h' 3⟩

set_option maxRecDepth 100000 in
theorem run_cells (w : World) (o o' : Obj) : (((((w.alloc (.cells #[.slice ra rs.length rc, .slice ga gs.length gc, .slice sa ss.length sc] 38)).alloc (.cells #[.slice za zs.length zc] 22)).alloc (.cells #[.bool false, .slice none 0 0] 40)).alloc o).alloc o').cell? ⟨w.heap.size, 0, none⟩ = some (.slice ra rs.length rc) ∧ (((((w.alloc (.cells #[.slice ra rs.length rc, .slice ga gs.length gc, .slice sa ss.length sc] 38)).alloc (.cells #[.slice za zs.length zc] 22)).alloc (.cells #[.bool false, .slice none 0 0] 40)).alloc o).alloc o').cell? ⟨w.heap.size, 1, none⟩ = some (.slice ga gs.length gc) ∧ (((((w.alloc (.cells #[.slice ra rs.length rc, .slice ga gs.length gc, .slice sa ss.length sc] 38)).alloc (.cells #[.slice za zs.length zc] 22)).alloc (.cells #[.bool false, .slice none 0 0] 40)).alloc o).alloc o').cell? ⟨w.heap.size, 2, none⟩ = some (.slice sa ss.length sc) ∧ (((((w.alloc (.cells #[.slice ra rs.length rc, .slice ga gs.length gc, .slice sa ss.length sc] 38)).alloc (.cells #[.slice za zs.length zc] 22)).alloc (.cells #[.bool false, .slice none 0 0] 40)).alloc o).alloc o').cell? ⟨w.heap.size + 1, 0, none⟩ = some (.slice za zs.length zc) := by
  refine ⟨?_, ?_, ?_, ?_⟩
  · rw [World.cell?_alloc_lt _ _ _ (by simp; omega), World.cell?_alloc_lt _ _ _ (by simp; omega), World.cell?_alloc_lt _ _ _ (by simp; omega), World.cell?_alloc_lt _ _ _ (by simp)]; simp
  · rw [World.cell?_alloc_lt _ _ _ (by simp; omega), World.cell?_alloc_lt _ _ _ (by simp; omega), World.cell?_alloc_lt _ _ _ (by simp; omega), World.cell?_alloc_lt _ _ _ (by simp)]; simp
  · rw [World.cell?_alloc_lt _ _ _ (by simp; omega), World.cell?_alloc_lt _ _ _ (by simp; omega), World.cell?_alloc_lt _ _ _ (by simp; omega), World.cell?_alloc_lt _ _ _ (by simp)]; simp
  · rw [World.cell?_alloc_lt _ _ _ (by simp), World.cell?_alloc_lt _ _ _ (by simp), World.cell?_alloc_lt _ _ _ (by simp)]; simp

set_option maxRecDepth 100000 in
theorem txnRun_any (w : World) (ht : IsTx w ra ga sa rs gs ss) (hz : IsInts w za zs) (hn : za = none → zc = 0) :
    Calls Try.prog 15 #[.agg #[.slice ra rs.length rc, .slice ga gs.length gc, .slice sa ss.length sc], .slice za zs.length zc] w fun e w' => ∃ va vc ma mc, e = .returned (.tuple #[.agg #[.bool (runD rs gs ss zs), .slice va (runV rs gs ss zs).length vc], .slice ma (runM rs gs ss zs).length mc, .int .i64 (runE rs gs ss zs)]) ∧ IsAt w.heap.size w'.heap.size w' va (runV rs gs ss zs) ∧ IsAt w.heap.size w'.heap.size w' ma (runM rs gs ss zs) ∧ Below w.heap.size w w' := by
  obtain ⟨h0, h1, h2, h5⟩ := run_cells ra ga sa rc gc sc rs gs ss za zc zs w (.cells #[.bool false, .slice none 0 0, .slice none 0 0] 87) (.cells #[.int .i64 0] 25)
  have hg : Below w.heap.size w (((((w.alloc (.cells #[.slice ra rs.length rc, .slice ga gs.length gc, .slice sa ss.length sc] 38)).alloc (.cells #[.slice za zs.length zc] 22)).alloc (.cells #[.bool false, .slice none 0 0] 40)).alloc (.cells #[.bool false, .slice none 0 0, .slice none 0 0] 87)).alloc (.cells #[.int .i64 0] 25)) := grow_alloc (grow_alloc (grow_alloc (grow_alloc (grow_alloc (Below.refl _ _) _) _) _) _) _
  by_cases he : runE rs gs ss zs = 0
  · obtain ⟨hc, hlen⟩ := runE_zero he
    obtain ⟨hm, _, hgg, hss⟩ := chk_parts hc
    obtain ⟨h4, _, h3, _⟩ := many_small _ _ _ hm
    have e1 : runD rs gs ss zs = allG zs gs := if_pos he
    have e2 : runV rs gs ss zs = zs := if_pos he
    have e3 : runM rs gs ss zs = madeOf zs gs ss := if_pos he
    rw [e1, e2, e3, he]
    exact run_by ra ga sa rc gc sc rs gs ss za zc zs _ _ _ _ w (caught_o_ret _ _ _ _ _ (run1_ok ra ga sa rc gc sc rs gs ss za zc zs _ _ _ h0 h1 h2 h5 (ht.below hg) (hz.below hg) hn he hgg hss h3 (by omega) hlen))
  · have e1 : runD rs gs ss zs = false := if_neg he
    have e2 : runV rs gs ss zs = [] := if_neg he
    have e3 : runM rs gs ss zs = [] := if_neg he
    rw [e1, e2, e3]
    refine run_by ra ga sa rc gc sc rs gs ss za zc zs _ _ _ _ w ((caught_o_pan _ _ _ (run1_pan ra ga sa rc gc sc rs gs ss za zc zs _ _ _ h0 h1 h2 h5 (ht.below hg) (hz.below hg) he)).mono ?_)
    exact fun _ _ ⟨x1, x2⟩ => ⟨none, 0, none, 0, x1, fun i hi => absurd hi (by simp), fun i hi => absurd hi (by simp), x2⟩
end Go.Proofs.Ytcgpkonfneofdaa
