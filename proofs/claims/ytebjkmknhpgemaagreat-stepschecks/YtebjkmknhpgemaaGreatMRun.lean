/-
  What three() comes to.
  Conditions: those that each theorem states.
-/
import Derived.Test.YtebjkmknhpgemaaGreatMHall
import Derived.Test.YtebjkmknhpgemaaGreatMPlace
import Derived.WalkKit
import Derived.WalkSpells
import Derived.WalkLawsBesides
import Derived.Defers
import Derived.Recover
import Derived.ProofKit
import Derived.Deep.RegionHeld
import Derived.Deep.RegionHeld3
import Derived.Deep.RegionLaw
import Derived.Deep.DeepCutAuto
import Derived.Deep.QuietTactic
import Derived.BigQuiet
import Derived.Maps.AppendAt
import Derived.Lib.SliceRun
import Derived.Deep.AppendLies
import Derived.Test.YtebjkmknhpgemaaGreatTxnA
import Derived.Laws.StructEq
import Derived.Test.YtebjkmknhpgemaaGreatPlaceA
import Derived.Test.YtebjkmknhpgemaaGreatStoreC
import Derived.OpenShut
import Derived.ChangeOld
import Derived.Deep.Slices
import Derived.Deep.Strs
import Derived.Lib.SmallJoins
import Derived.Test.YtebjkmknhpgemaaGreatHallH
import Derived.Test.YtebjkmknhpgemaaGreatPlaceK
namespace Go.Proofs.YtebjkmknhpgemaaGreat
open Go.RowKit

def five5 : List Int := [5, 1, 0, 0, 0, 0, 0, 0]
def th3 (ra ga sa ra2 sa2 sa3 : Option Addr) (rc gc sc rc2 sc2 sc3 : Nat) : List TxA := [xPay ra ga sa rc gc sc, xNote ra2 sa2 rc2 sc2, xMark 9 sa3 sc3]
variable (ra ga sa ra2 sa2 sa3 : Option Addr) (rc gc sc rc2 sc2 sc3 : Nat)
/-- Begun, and one step further. -/
def STC : SA := begS 2 (th3 none none none none none none 0 0 0 0 0 0) five5
def MVC : SA := doS 2 (th3 none none none none none none 0 0 0 0 0 0) STC 1 0 1
set_option maxRecDepth 100000
theorem th_beg : begE 2 (th3 ra ga sa ra2 sa2 sa3 rc gc sc rc2 sc2 sc3) five5 = 0 := by kernel_rfl
theorem th_stc : begS 2 (th3 ra ga sa ra2 sa2 sa3 rc gc sc rc2 sc2 sc3) five5 = STC := by kernel_rfl
theorem th_mvc : doS 2 (th3 ra ga sa ra2 sa2 sa3 rc gc sc rc2 sc2 sc3) STC 1 0 1 = MVC := by kernel_rfl
theorem th_can : canE 2 (th3 ra ga sa ra2 sa2 sa3 rc gc sc rc2 sc2 sc3) STC = [(1, 0, 0), (1, 0, 1), (1, 2, 1)] := by kernel_rfl
theorem th_st : stE 2 (th3 ra ga sa ra2 sa2 sa3 rc gc sc rc2 sc2 sc3) STC = 0 := by kernel_rfl
theorem th_s0 : stE 2 (th3 ra ga sa ra2 sa2 sa3 rc gc sc rc2 sc2 sc3) SNil = 1 := by kernel_rfl
theorem th_do : doE 2 (th3 ra ga sa ra2 sa2 sa3 rc gc sc rc2 sc2 sc3) STC 1 0 1 = 0 := by kernel_rfl
theorem th_do2 : doE 2 (th3 ra ga sa ra2 sa2 sa3 rc gc sc rc2 sc2 sc3) STC 1 1 1 = 6 := by kernel_rfl
theorem th_do3 : doE 2 (th3 ra ga sa ra2 sa2 sa3 rc gc sc rc2 sc2 sc3) MVC 1 0 1 = 7 := by kernel_rfl
theorem th_do4 : doE 2 (th3 ra ga sa ra2 sa2 sa3 rc gc sc rc2 sc2 sc3) MVC 2 2 0 = 5 := by kernel_rfl
theorem th_ov : ovE 2 (th3 ra ga sa ra2 sa2 sa3 rc gc sc rc2 sc2 sc3) STC = false := by kernel_rfl
theorem th_vs : MVC.vs = [[0, 1], [0], []] := by kernel_rfl
end Go.Proofs.YtebjkmknhpgemaaGreat

namespace Go.Proofs.YtebjkmknhpgemaaGreat
open Go.RowKit

/-- What is known of three()'s transactions. -/
structure Th (l : List TxA) : Prop where
  beg : begE 2 l five5 = 0
  stc : begS 2 l five5 = STC
  mvc : doS 2 l STC 1 0 1 = MVC
  can : canE 2 l STC = [(1, 0, 0), (1, 0, 1), (1, 2, 1)]
  st : stE 2 l STC = 0
  s0 : stE 2 l SNil = 1
  do1 : doE 2 l STC 1 0 1 = 0
  do2 : doE 2 l STC 1 1 1 = 6
  do3 : doE 2 l MVC 1 0 1 = 7
  do4 : doE 2 l MVC 2 2 0 = 5
  ov : ovE 2 l STC = false
theorem three_th (w : World) : Calls Tryz.prog 56 #[] w fun e w' => ∃ l a, e = .returned (.agg #[.int .i64 2, .slice a l.length 3]) ∧ Hid (IsTxs w' a l) ∧ Hid (Th l) ∧ Below w.heap.size w w' := by
  refine (three_any w).mono ?_
  rintro e w' ⟨a, ra, ga, sa, rc, gc, sc, ra2, sa2, rc2, sc2, sa3, sc3, rfl, hl, hb⟩
  exact ⟨th3 ra ga sa ra2 sa2 sa3 rc gc sc rc2 sc2 sc3, a, rfl, hl, ⟨th_beg _ _ _ _ _ _ _ _ _ _ _ _, th_stc _ _ _ _ _ _ _ _ _ _ _ _, th_mvc _ _ _ _ _ _ _ _ _ _ _ _, th_can _ _ _ _ _ _ _ _ _ _ _ _, th_st _ _ _ _ _ _ _ _ _ _ _ _, th_s0 _ _ _ _ _ _ _ _ _ _ _ _, th_do _ _ _ _ _ _ _ _ _ _ _ _, th_do2 _ _ _ _ _ _ _ _ _ _ _ _, th_do3 _ _ _ _ _ _ _ _ _ _ _ _, th_do4 _ _ _ _ _ _ _ _ _ _ _ _, th_ov _ _ _ _ _ _ _ _ _ _ _ _⟩, hb⟩
set_option maxRecDepth 100000 in
theorem five_any (w : World) : Calls Tryz.prog 57 #[] w fun e w' => ∃ a, e = .returned (.slice a 8 8) ∧ Hid (IsInts w' a five5) ∧ Below w.heap.size w w' := by
  go_enter Tryz.func57, Tryz.ntmps57
  go_wp2
  go_ret
  refine ⟨_, rfl, fun i hi => ⟨w.heap.size, 0, rfl, by simp, ?_⟩, grow_alloc (Below.refl _ _) _⟩
  rw [Nat.zero_add]
  match i, hi with
  | 0, _ => exact at_new _ _ 3 _ 0 _ rfl rfl
  | 1, _ => exact at_new _ _ 3 _ 1 _ rfl rfl
  | 2, _ => exact at_new _ _ 3 _ 2 _ rfl rfl
  | 3, _ => exact at_new _ _ 3 _ 3 _ rfl rfl
  | 4, _ => exact at_new _ _ 3 _ 4 _ rfl rfl
  | 5, _ => exact at_new _ _ 3 _ 5 _ rfl rfl
  | 6, _ => exact at_new _ _ 3 _ 6 _ rfl rfl
  | 7, _ => exact at_new _ _ 3 _ 7 _ rfl rfl
section
variable {l : List TxA} {a : Option Addr} {c : Nat} {m : Int} {S : SA} {q : Q4} {w : World}
theorem do_q (kd n k : Int) (hl : IsTxs w a l) (hq : StaQ S q w) : Calls Tryz.prog 26 #[.agg #[.int .i64 m, .slice a l.length c], .agg #[.slice q.sa q.sn q.sc, .slice q.ra q.rn q.rc, .slice q.wa q.wn q.tc, .slice q.va q.vn q.vc], .agg #[.int .i64 kd, .int .i64 n, .int .i64 k]] w fun e w' => ∃ q' : Q4, e = .returned (.tuple #[.agg #[.slice q'.sa q'.sn q'.sc, .slice q'.ra q'.rn q'.rc, .slice q'.wa q'.wn q'.tc, .slice q'.va q'.vn q'.vc], .int .i64 (doE m l S kd n k)]) ∧ StaF w.heap.size (doS m l S kd n k) q' w' ∧ Below w.heap.size w w' := by
  obtain ⟨e1, e2, e3, e4, hs⟩ := hq
  rw [e1, e2, e3, e4]
  exact stepsDo_any a c l q.sa q.ra q.wa q.va q.sc q.rc q.tc q.vc S m kd n k w hl hs
theorem can_q (hl : IsTxs w a l) (hq : StaQ S q w) : Calls Tryz.prog 24 #[.agg #[.int .i64 m, .slice a l.length c], .agg #[.slice q.sa q.sn q.sc, .slice q.ra q.rn q.rc, .slice q.wa q.wn q.tc, .slice q.va q.vn q.vc]] w fun e w' => ∃ a c, e = .returned (.tuple #[.slice a (canE m l S).length c, .int .i64 (stE m l S)]) ∧ IsSteps w' a (canE m l S) ∧ Below w.heap.size w w' := by
  obtain ⟨e1, e2, e3, e4, hs⟩ := hq
  rw [e1, e2, e3, e4]
  exact stepsCan_any a c l q.sa q.ra q.wa q.va q.sc q.rc q.tc q.vc S m w hl hs
theorem over_q (hl : IsTxs w a l) (hq : StaQ S q w) : Calls Tryz.prog 15 #[.agg #[.int .i64 m, .slice a l.length c], .agg #[.slice q.sa q.sn q.sc, .slice q.ra q.rn q.rc, .slice q.wa q.wn q.tc, .slice q.va q.vn q.vc]] w fun e w' => e = .returned (.tuple #[.bool (ovE m l S), .int .i64 (stE m l S)]) ∧ Below w.heap.size w w' := by
  obtain ⟨e1, e2, e3, e4, hs⟩ := hq
  rw [e1, e2, e3, e4]
  exact stepsOver_any a c l q.sa q.ra q.wa q.va q.sc q.rc q.tc q.vc S m w hl hs
theorem check_q (hl : IsTxs w a l) (hq : StaQ S q w) : Calls Tryz.prog 22 #[.agg #[.int .i64 m, .slice a l.length c], .agg #[.slice q.sa q.sn q.sc, .slice q.ra q.rn q.rc, .slice q.wa q.wn q.tc, .slice q.va q.vn q.vc]] w fun e w' => e = .returned (.int .i64 (stE m l S)) ∧ Below w.heap.size w w' := by
  obtain ⟨e1, e2, e3, e4, hs⟩ := hq
  rw [e1, e2, e3, e4]
  exact stepsCheck_any a c l q.sa q.ra q.wa q.va q.sc q.rc q.tc q.vc S m w hl hs
end
theorem fresh4 {V X wa : World} (h : Below X.heap.size X wa) (hX : X.heap = (V.alloc (.cells #[.slice none 0 0, .slice none 0 0, .slice none 0 0, .slice none 0 0] 29)).heap) : wa.cell? ⟨V.heap.size, 0, none⟩ = some (.slice none 0 0) ∧ wa.cell? ⟨V.heap.size, 1, none⟩ = some (.slice none 0 0) ∧ wa.cell? ⟨V.heap.size, 2, none⟩ = some (.slice none 0 0) ∧ wa.cell? ⟨V.heap.size, 3, none⟩ = some (.slice none 0 0) ∧ (∀ j, wa.frozen? ⟨V.heap.size, j, none⟩ = false) ∧ V.heap.size < X.heap.size := by
  have hb : V.heap.size < X.heap.size := by rw [hX]; simp
  have hc : ∀ p, X.cell? p = (V.alloc (.cells #[.slice none 0 0, .slice none 0 0, .slice none 0 0, .slice none 0 0] 29)).cell? p := fun p => World.cell?_of_block (by rw [hX])
  have hf : ∀ p, X.frozen? p = (V.alloc (.cells #[.slice none 0 0, .slice none 0 0, .slice none 0 0, .slice none 0 0] 29)).frozen? p := fun p => World.frozen?_of_block (by rw [hX])
  have g : ∀ j, (V.alloc (.cells #[.slice none 0 0, .slice none 0 0, .slice none 0 0, .slice none 0 0] 29)).cell? ⟨V.heap.size, j, none⟩ = some (.slice none 0 0) → wa.cell? ⟨V.heap.size, j, none⟩ = some (.slice none 0 0) := fun j e => (h.cell (p := ⟨V.heap.size, j, none⟩) hb).trans ((hc _).trans e)
  exact ⟨g 0 (at_new _ _ 29 _ 0 _ rfl rfl), g 1 (at_new _ _ 29 _ 1 _ rfl rfl), g 2 (at_new _ _ 29 _ 2 _ rfl rfl), g 3 (at_new _ _ 29 _ 3 _ rfl rfl), fun j => (h.frozen (p := ⟨V.heap.size, j, none⟩) hb).trans ((hf _).trans (frozen_new _ _ 29 _ j rfl)), hb⟩
theorem fresh4_on {X wa wb : World} {R : Nat} {u0 u1 u2 u3 : Value} (h : Below X.heap.size X wb) (r0 : wa.cell? ⟨R, 0, none⟩ = some u0) (r1 : wa.cell? ⟨R, 1, none⟩ = some u1) (r2 : wa.cell? ⟨R, 2, none⟩ = some u2) (r3 : wa.cell? ⟨R, 3, none⟩ = some u3) (rf : ∀ j, wa.frozen? ⟨R, j, none⟩ = false) (hX : X.heap = wa.heap) : wb.cell? ⟨R, 0, none⟩ = some u0 ∧ wb.cell? ⟨R, 1, none⟩ = some u1 ∧ wb.cell? ⟨R, 2, none⟩ = some u2 ∧ wb.cell? ⟨R, 3, none⟩ = some u3 ∧ (∀ j, wb.frozen? ⟨R, j, none⟩ = false) ∧ R < X.heap.size := by
  have hb : R < X.heap.size := by rw [hX]; exact World.block_lt_of_cell? wa ⟨R, 0, none⟩ r0
  have hc : ∀ p, X.cell? p = wa.cell? p := fun p => World.cell?_of_block (by rw [hX])
  have hf : ∀ p, X.frozen? p = wa.frozen? p := fun p => World.frozen?_of_block (by rw [hX])
  exact ⟨(h.cell (p := ⟨R, 0, none⟩) hb).trans ((hc _).trans r0), (h.cell (p := ⟨R, 1, none⟩) hb).trans ((hc _).trans r1), (h.cell (p := ⟨R, 2, none⟩) hb).trans ((hc _).trans r2), (h.cell (p := ⟨R, 3, none⟩) hb).trans ((hc _).trans r3), fun j => (h.frozen (p := ⟨R, j, none⟩) hb).trans ((hf _).trans (rf j)), hb⟩
end Go.Proofs.YtebjkmknhpgemaaGreat

namespace Go.Proofs.YtebjkmknhpgemaaGreat
open Go.RowKit

theorem ints_two (w : World) (n : Nat) (x y : Int) (hn : n = w.heap.size) : IsInts (w.alloc (.cells #[.int .i64 x, .int .i64 y] 3)) (some ⟨n, 0, none⟩) [x, y] := by
  subst hn
  intro i hi
  refine ⟨w.heap.size, 0, rfl, by simp, ?_⟩
  match i, hi with
  | 0, _ => simp
  | 1, _ => simp

set_option maxRecDepth 100000 in
set_option maxHeartbeats 8000000 in
theorem stepsBegun_any (w : World) : Calls Tryz.prog 20 #[] w fun e w' => e = .returned (.bool true) ∧ Below w.heap.size w w' := by
  go_enter Tryz.func20, Tryz.ntmps20
  go_wp2_with fail
  refine (three_th _).mono ?_
  rintro e w1 ⟨l1, a1, rfl, hl1, ht1, hb1⟩
  go_wp2_with fail
  refine (five_any _).mono ?_
  rintro e w2 ⟨a2, rfl, hi2, hb2⟩
  go_wp2_with fail
  refine (stepsBegin_any a1 3 l1 a2 8 five5 2 _ (hl1.out.below hb2) hi2.out).mono ?_
  rintro e w3 ⟨q, rfl, hq, hb3⟩
  rw [ht1.out.beg]
  rw [ht1.out.stc] at hq
  have gA : Below w3.heap.size w3 (w3.alloc (.cells #[.slice q.sa q.sn q.sc, .slice q.ra q.rn q.rc, .slice q.wa q.wn q.tc, .slice q.va q.vn q.vc] 29)) := grow_alloc (Below.refl _ _) _
  have B0 : Hid (Below w.heap.size w (w3.alloc (.cells #[.slice q.sa q.sn q.sc, .slice q.ra q.rn q.rc, .slice q.wa q.wn q.tc, .slice q.va q.vn q.vc] 29))) := grow_trans hb1 (grow_trans hb2 (grow_trans hb3 gA))
  have hqq : Hid (StaQ STC q (w3.alloc (.cells #[.slice q.sa q.sn q.sc, .slice q.ra q.rn q.rc, .slice q.wa q.wn q.tc, .slice q.va q.vn q.vc] 29))) := hq.sta.below gA
  have k0 : (w3.alloc (.cells #[.slice q.sa q.sn q.sc, .slice q.ra q.rn q.rc, .slice q.wa q.wn q.tc, .slice q.va q.vn q.vc] 29)).cell? ⟨w3.heap.size, 0, none⟩ = some (.slice q.sa q.sn q.sc) := at_new _ _ 29 _ 0 _ rfl rfl
  have k1 : (w3.alloc (.cells #[.slice q.sa q.sn q.sc, .slice q.ra q.rn q.rc, .slice q.wa q.wn q.tc, .slice q.va q.vn q.vc] 29)).cell? ⟨w3.heap.size, 1, none⟩ = some (.slice q.ra q.rn q.rc) := at_new _ _ 29 _ 1 _ rfl rfl
  have k2 : (w3.alloc (.cells #[.slice q.sa q.sn q.sc, .slice q.ra q.rn q.rc, .slice q.wa q.wn q.tc, .slice q.va q.vn q.vc] 29)).cell? ⟨w3.heap.size, 2, none⟩ = some (.slice q.wa q.wn q.tc) := at_new _ _ 29 _ 2 _ rfl rfl
  have k3 : (w3.alloc (.cells #[.slice q.sa q.sn q.sc, .slice q.ra q.rn q.rc, .slice q.wa q.wn q.tc, .slice q.va q.vn q.vc] 29)).cell? ⟨w3.heap.size, 3, none⟩ = some (.slice q.va q.vn q.vc) := at_new _ _ 29 _ 3 _ rfl rfl
  clear hb1 hb2 hb3 gA hq hl1 ht1 hi2
  go_upto_region 2 with fail
  generalize w3.alloc (.cells #[.slice q.sa q.sn q.sc, .slice q.ra q.rn q.rc, .slice q.wa q.wn q.tc, .slice q.va q.vn q.vc] 29) = V at *
  generalize w3.heap.size = b1 at *
  have KS : Hid (∀ w', Below V.heap.size V w' → w'.cell? ⟨b1, 0, none⟩ = some (.slice q.sa q.sn q.sc) ∧ w'.cell? ⟨b1, 1, none⟩ = some (.slice q.ra q.rn q.rc) ∧ w'.cell? ⟨b1, 2, none⟩ = some (.slice q.wa q.wn q.tc) ∧ w'.cell? ⟨b1, 3, none⟩ = some (.slice q.va q.vn q.vc) ∧ Hid (Below V.heap.size V w')) := fun w' hb => ⟨ext_cell hb k0, ext_cell hb k1, ext_cell hb k2, ext_cell hb k3, hb⟩
  go_cut [3, 4] (fun s e wx => ∃ a c, s = .slice a 3 c ∧ e = .int .i64 0 ∧ Hid (IsSteps wx a [(1, 0, 0), (1, 0, 1), (1, 2, 1)]) ∧ Hid (Below V.heap.size V wx))
  case first =>
    clear k0 k1 k2 k3 B0
    go_region_held3 (fun w' => w'.cell? ⟨b1, 0, none⟩ = some (.slice q.sa q.sn q.sc) ∧ w'.cell? ⟨b1, 1, none⟩ = some (.slice q.ra q.rn q.rc) ∧ w'.cell? ⟨b1, 2, none⟩ = some (.slice q.wa q.wn q.tc) ∧ w'.cell? ⟨b1, 3, none⟩ = some (.slice q.va q.vn q.vc) ∧ Hid (Below V.heap.size V w')) ((refine KS.out _ ?_; go_split_ands; repeat (first | assumption | exact Below.refl _ _ | exact Hid.out (by assumption) | refine grow_drew ?_ | refine grow_alloc ?_ _ | refine grow_set ?_ (by first | exact Nat.le_refl _ | assumption) _ | refine grow_trans ?_ (by assumption))))
      (first
        | (go_at_call 56; refine (three_th _).mono ?_; rintro e wa ⟨lwa, awa, rfl, hlwa, htwa, hbwa⟩; have hzwa : V.heap.size ≤ wa.heap.size := size_le (grow_trans (by first | exact Below.refl _ _ | exact grow_drew (Below.refl _ _) | exact grow_alloc (Below.refl _ _) _ | exact grow_alloc (grow_drew (Below.refl _ _)) _ | exact grow_drew (grow_alloc (Below.refl _ _) _) : Below V.heap.size V _) hbwa))
        | (go_at_call 24; refine (can_q (m := 2) (S := STC) (q := q) (hlwa.out.below ?_) (hqq.out.below ?_)).mono ?_; (go_split_ands; repeat (first | exact Below.refl _ _ | exact grow_drew (Below.refl _ _))); (go_split_ands; first | exact Hid.out (by assumption) | (repeat (first | assumption | exact Below.refl _ _ | exact Hid.out (by assumption) | refine grow_drew ?_ | refine grow_alloc ?_ _ | refine grow_set ?_ (by first | exact Nat.le_refl _ | assumption) _ | refine grow_trans ?_ (by assumption)))); rintro e wb ⟨a5, c5, rfl, h5, hbwb⟩; rw [htwa.out.st]; rw [htwa.out.can] at h5 ⊢))
    all_goals (go_wp2_with fail; go_meet)
    all_goals (
      go_split_ands
      exact ⟨a5, c5, rfl, rfl, h5, Hid.out (by assumption)⟩)
  case rest =>
    obtain ⟨sa, sc, rfl, rfl, hst, hbc⟩ := hcut
    obtain ⟨V1, hren⟩ : ∃ V1 : World, V1 = wc := ⟨_, rfl⟩
    subst hren
    have k0 := ext_cell hbc.out k0
    have k1 := ext_cell hbc.out k1
    have k2 := ext_cell hbc.out k2
    have k3 := ext_cell hbc.out k3
    have B1 : Hid (Below w.heap.size w V1) := grow_trans B0.out hbc.out
    have hqq1 : Hid (StaQ STC q V1) := hqq.out.below hbc.out
    clear KS hqq B0 hbc
    obtain ⟨V, hren⟩ : ∃ V : World, V = V1 := ⟨_, rfl⟩
    subst hren
    have hst1 := hst
    clear hst
    go_upto_region 3 with fail
    have KS : Hid (∀ w', Below V.heap.size V w' → w'.cell? ⟨b1, 0, none⟩ = some (.slice q.sa q.sn q.sc) ∧ w'.cell? ⟨b1, 1, none⟩ = some (.slice q.ra q.rn q.rc) ∧ w'.cell? ⟨b1, 2, none⟩ = some (.slice q.wa q.wn q.tc) ∧ w'.cell? ⟨b1, 3, none⟩ = some (.slice q.va q.vn q.vc) ∧ Hid (Below V.heap.size V w')) := fun w' hb => ⟨ext_cell hb k0, ext_cell hb k1, ext_cell hb k2, ext_cell hb k3, hb⟩
    go_cut [5, 6] (fun s e wx => ∃ (b5 : Nat) (q5 : Q4), s = .pointer (some ⟨b5, 0, none⟩) ∧ e = .int .i64 0 ∧ wx.cell? ⟨b5, 0, none⟩ = some (.slice q5.sa q5.sn q5.sc) ∧ wx.cell? ⟨b5, 1, none⟩ = some (.slice q5.ra q5.rn q5.rc) ∧ wx.cell? ⟨b5, 2, none⟩ = some (.slice q5.wa q5.wn q5.tc) ∧ wx.cell? ⟨b5, 3, none⟩ = some (.slice q5.va q5.vn q5.vc) ∧ Hid (StaQ MVC q5 wx) ∧ Hid (Below V.heap.size V wx))
    case first =>
      clear k0 k1 k2 k3 B1 hst1
      go_region_held3 (fun w' => w'.cell? ⟨b1, 0, none⟩ = some (.slice q.sa q.sn q.sc) ∧ w'.cell? ⟨b1, 1, none⟩ = some (.slice q.ra q.rn q.rc) ∧ w'.cell? ⟨b1, 2, none⟩ = some (.slice q.wa q.wn q.tc) ∧ w'.cell? ⟨b1, 3, none⟩ = some (.slice q.va q.vn q.vc) ∧ Hid (Below V.heap.size V w')) ((refine KS.out _ ?_; go_split_ands; repeat (first | assumption | exact Below.refl _ _ | exact Hid.out (by assumption) | refine grow_drew ?_ | refine grow_alloc ?_ _ | refine grow_set ?_ (by first | exact Nat.le_refl _ | assumption) _ | refine grow_trans ?_ (by assumption))))
        (first
          | (go_at_call 56; refine (three_th _).mono ?_; rintro e wa ⟨lwa, awa, rfl, hlwa, htwa, hbwa⟩; have hzwa : V.heap.size ≤ wa.heap.size := size_le (grow_trans (by first | exact Below.refl _ _ | exact grow_drew (Below.refl _ _) | exact grow_alloc (Below.refl _ _) _ | exact grow_alloc (grow_drew (Below.refl _ _)) _ | exact grow_drew (grow_alloc (Below.refl _ _) _) : Below V.heap.size V _) hbwa); (first | (obtain ⟨fr0, fr1, fr2, fr3, frf, frl⟩ := fresh4 (V := V) hbwa rfl) | skip))
          | (go_at_call 26; refine (do_q 1 0 1 (m := 2) (S := STC) (q := q) (hlwa.out.below ?_) (hqq1.out.below ?_)).mono ?_; (go_split_ands; repeat (first | exact Below.refl _ _ | exact grow_drew (Below.refl _ _) | exact grow_alloc (Below.refl _ _) _ | exact grow_drew (grow_alloc (Below.refl _ _) _) | exact grow_alloc (grow_drew (Below.refl _ _)) _)); (go_split_ands; first | exact Hid.out (by assumption) | (repeat (first | assumption | exact Below.refl _ _ | exact Hid.out (by assumption) | refine grow_drew ?_ | refine grow_alloc ?_ _ | refine grow_set ?_ (by first | exact Nat.le_refl _ | assumption) _ | refine grow_trans ?_ (by assumption)))); rintro e wb ⟨q5, rfl, h5, hbwb⟩; have hzwb : V.heap.size ≤ wb.heap.size := Nat.le_trans hzwa (size_le (grow_trans (by first | exact Below.refl _ _ | exact grow_drew (Below.refl _ _) | exact grow_alloc (Below.refl _ _) _ | exact grow_alloc (grow_drew (Below.refl _ _)) _ | exact grow_drew (grow_alloc (Below.refl _ _) _) : Below wa.heap.size wa _) hbwb)); rw [htwa.out.do1]; rw [htwa.out.mvc] at h5; (first | (obtain ⟨t0, t1, t2, t3, tf, tl⟩ := fresh4 (V := wa) hbwb rfl) | (revert fr0; intro fr0; obtain ⟨t0, t1, t2, t3, tf, tl⟩ := fresh4_on hbwb fr0 fr1 fr2 fr3 frf rfl) | skip)))
      all_goals (go_wp2_with fail; go_meet)
      all_goals (
        go_split_ands
        first
          | exact ⟨_, q5, rfl, rfl, by simp, by simp, by simp, by simp, (h5.sta).below (grow_alloc (Below.refl _ _) _), Hid.out (by assumption)⟩
          | exact ⟨_, q5, rfl, rfl, (set_off (by decide) (set_off (by decide) (set_off (by decide) (set_here t0)))), (set_off (by decide) (set_off (by decide) (set_here (set_off (by decide) t1)))), (set_off (by decide) (set_here (set_off (by decide) (set_off (by decide) t2)))), (set_here (set_off (by decide) (set_off (by decide) (set_off (by decide) t3)))), ((((h5.set _ 0 _ tl).set _ 1 _ tl).set _ 2 _ tl).set _ 3 _ tl).sta, Hid.out (by assumption)⟩)
    case rest =>
      obtain ⟨b5, q5, rfl, rfl, m0, m1, m2, m3, hm, hbc⟩ := hcut
      obtain ⟨W, hren⟩ : ∃ W : World, W = wc := ⟨_, rfl⟩
      subst hren
      have k0 := ext_cell hbc.out k0
      have k1 := ext_cell hbc.out k1
      have k2 := ext_cell hbc.out k2
      have k3 := ext_cell hbc.out k3
      have B2 : Hid (Below w.heap.size w W) := grow_trans B1.out hbc.out
      have hqq2 : Hid (StaQ STC q W) := hqq1.out.below hbc.out
      have hst2 : Hid (IsSteps W sa [(1, 0, 0), (1, 0, 1), (1, 2, 1)]) := hst1.out.below hbc.out
      have hm2 : Hid (StaQ MVC q5 W) := hm
      clear KS hqq1 B1 hst1 hm hbc
      obtain ⟨V, hren⟩ : ∃ V : World, V = W := ⟨_, rfl⟩
      subst hren
      go_upto_region 4 with fail
      have KS : Hid (∀ w', Below V.heap.size V w' → w'.cell? ⟨b1, 0, none⟩ = some (.slice q.sa q.sn q.sc) ∧ w'.cell? ⟨b1, 1, none⟩ = some (.slice q.ra q.rn q.rc) ∧ w'.cell? ⟨b1, 2, none⟩ = some (.slice q.wa q.wn q.tc) ∧ w'.cell? ⟨b1, 3, none⟩ = some (.slice q.va q.vn q.vc) ∧ Hid (Below V.heap.size V w')) := fun w' hb => ⟨ext_cell hb k0, ext_cell hb k1, ext_cell hb k2, ext_cell hb k3, hb⟩
      go_cut [8] (fun e wx => e = .int .i64 6 ∧ Hid (Below V.heap.size V wx))
      case first =>
        clear k0 k1 k2 k3 m0 m1 m2 m3 B2 hst2 hm2
        go_region_held3 (fun w' => w'.cell? ⟨b1, 0, none⟩ = some (.slice q.sa q.sn q.sc) ∧ w'.cell? ⟨b1, 1, none⟩ = some (.slice q.ra q.rn q.rc) ∧ w'.cell? ⟨b1, 2, none⟩ = some (.slice q.wa q.wn q.tc) ∧ w'.cell? ⟨b1, 3, none⟩ = some (.slice q.va q.vn q.vc) ∧ Hid (Below V.heap.size V w')) ((refine KS.out _ ?_; go_split_ands; repeat (first | assumption | exact Below.refl _ _ | exact Hid.out (by assumption) | refine grow_drew ?_ | refine grow_alloc ?_ _ | refine grow_set ?_ (by first | exact Nat.le_refl _ | assumption) _ | refine grow_trans ?_ (by assumption))))
          (first
            | (go_at_call 56; refine (three_th _).mono ?_; rintro e wa ⟨lwa, awa, rfl, hlwa, htwa, hbwa⟩; have hzwa : V.heap.size ≤ wa.heap.size := size_le (grow_trans (by first | exact Below.refl _ _ | exact grow_drew (Below.refl _ _) | exact grow_alloc (Below.refl _ _) _ | exact grow_alloc (grow_drew (Below.refl _ _)) _ | exact grow_drew (grow_alloc (Below.refl _ _) _) : Below V.heap.size V _) hbwa); (first | (obtain ⟨fr0, fr1, fr2, fr3, frf, frl⟩ := fresh4 (V := V) hbwa rfl) | skip))
            | (go_at_call 26; refine (do_q 1 1 1 (m := 2) (S := STC) (q := q) (hlwa.out.below ?_) (hqq2.out.below ?_)).mono ?_; (go_split_ands; repeat (first | exact Below.refl _ _ | exact grow_drew (Below.refl _ _) | exact grow_alloc (Below.refl _ _) _ | exact grow_drew (grow_alloc (Below.refl _ _) _) | exact grow_alloc (grow_drew (Below.refl _ _)) _)); (go_split_ands; first | exact Hid.out (by assumption) | (repeat (first | assumption | exact Below.refl _ _ | exact Hid.out (by assumption) | refine grow_drew ?_ | refine grow_alloc ?_ _ | refine grow_set ?_ (by first | exact Nat.le_refl _ | assumption) _ | refine grow_trans ?_ (by assumption)))); rintro e wb ⟨q6, rfl, h5, hbwb⟩; have hzwb : V.heap.size ≤ wb.heap.size := Nat.le_trans hzwa (size_le (grow_trans (by first | exact Below.refl _ _ | exact grow_drew (Below.refl _ _) | exact grow_alloc (Below.refl _ _) _ | exact grow_alloc (grow_drew (Below.refl _ _)) _ | exact grow_drew (grow_alloc (Below.refl _ _) _) : Below wa.heap.size wa _) hbwb)); rw [htwa.out.do2]; (first | (obtain ⟨t0, t1, t2, t3, tf, tl⟩ := fresh4 (V := wa) hbwb rfl) | (revert fr0; intro fr0; obtain ⟨t0, t1, t2, t3, tf, tl⟩ := fresh4_on hbwb fr0 fr1 fr2 fr3 frf rfl) | skip)))
        all_goals (go_wp2_with fail; go_meet)
        all_goals (
          go_split_ands
          first
            | exact ⟨rfl, Hid.out (by assumption)⟩
            | exact ⟨rfl, Hid.out (by assumption)⟩)
      case rest =>
        obtain ⟨rfl, hbc⟩ := hcut
        obtain ⟨W, hren⟩ : ∃ W : World, W = wc := ⟨_, rfl⟩
        subst hren
        have k0 := ext_cell hbc.out k0
        have k1 := ext_cell hbc.out k1
        have k2 := ext_cell hbc.out k2
        have k3 := ext_cell hbc.out k3
        have B3 : Hid (Below w.heap.size w W) := grow_trans B2.out hbc.out
        have hqq3 : Hid (StaQ STC q W) := hqq2.out.below hbc.out
        have hst3 : Hid (IsSteps W sa [(1, 0, 0), (1, 0, 1), (1, 2, 1)]) := hst2.out.below hbc.out
        have m0 := ext_cell hbc.out m0
        have m1 := ext_cell hbc.out m1
        have m2 := ext_cell hbc.out m2
        have m3 := ext_cell hbc.out m3
        have hm3 : Hid (StaQ MVC q5 W) := hm2.out.below hbc.out
        clear KS hqq2 B2 hst2 hm2 hbc
        obtain ⟨V, hren⟩ : ∃ V : World, V = W := ⟨_, rfl⟩
        subst hren
        go_upto_region 5 with fail
        have KS : Hid (∀ w', Below V.heap.size V w' → w'.cell? ⟨b5, 0, none⟩ = some (.slice q5.sa q5.sn q5.sc) ∧ w'.cell? ⟨b5, 1, none⟩ = some (.slice q5.ra q5.rn q5.rc) ∧ w'.cell? ⟨b5, 2, none⟩ = some (.slice q5.wa q5.wn q5.tc) ∧ w'.cell? ⟨b5, 3, none⟩ = some (.slice q5.va q5.vn q5.vc) ∧ Hid (Below V.heap.size V w')) := fun w' hb => ⟨ext_cell hb m0, ext_cell hb m1, ext_cell hb m2, ext_cell hb m3, hb⟩
        go_cut [10] (fun e wx => e = .int .i64 7 ∧ Hid (Below V.heap.size V wx))
        case first =>
          clear k0 k1 k2 k3 m0 m1 m2 m3 B3 hst3 hqq3
          go_region_held3 (fun w' => w'.cell? ⟨b5, 0, none⟩ = some (.slice q5.sa q5.sn q5.sc) ∧ w'.cell? ⟨b5, 1, none⟩ = some (.slice q5.ra q5.rn q5.rc) ∧ w'.cell? ⟨b5, 2, none⟩ = some (.slice q5.wa q5.wn q5.tc) ∧ w'.cell? ⟨b5, 3, none⟩ = some (.slice q5.va q5.vn q5.vc) ∧ Hid (Below V.heap.size V w')) ((refine KS.out _ ?_; go_split_ands; repeat (first | assumption | exact Below.refl _ _ | exact Hid.out (by assumption) | refine grow_drew ?_ | refine grow_alloc ?_ _ | refine grow_set ?_ (by first | exact Nat.le_refl _ | assumption) _ | refine grow_trans ?_ (by assumption))))
            (first
              | (go_at_call 56; refine (three_th _).mono ?_; rintro e wa ⟨lwa, awa, rfl, hlwa, htwa, hbwa⟩; have hzwa : V.heap.size ≤ wa.heap.size := size_le (grow_trans (by first | exact Below.refl _ _ | exact grow_drew (Below.refl _ _) | exact grow_alloc (Below.refl _ _) _ | exact grow_alloc (grow_drew (Below.refl _ _)) _ | exact grow_drew (grow_alloc (Below.refl _ _) _) : Below V.heap.size V _) hbwa); (first | (obtain ⟨fr0, fr1, fr2, fr3, frf, frl⟩ := fresh4 (V := V) hbwa rfl) | skip))
              | (go_at_call 26; refine (do_q 1 0 1 (m := 2) (S := MVC) (q := q5) (hlwa.out.below ?_) (hm3.out.below ?_)).mono ?_; (go_split_ands; repeat (first | exact Below.refl _ _ | exact grow_drew (Below.refl _ _) | exact grow_alloc (Below.refl _ _) _ | exact grow_drew (grow_alloc (Below.refl _ _) _) | exact grow_alloc (grow_drew (Below.refl _ _)) _)); (go_split_ands; first | exact Hid.out (by assumption) | (repeat (first | assumption | exact Below.refl _ _ | exact Hid.out (by assumption) | refine grow_drew ?_ | refine grow_alloc ?_ _ | refine grow_set ?_ (by first | exact Nat.le_refl _ | assumption) _ | refine grow_trans ?_ (by assumption)))); rintro e wb ⟨q6, rfl, h5, hbwb⟩; have hzwb : V.heap.size ≤ wb.heap.size := Nat.le_trans hzwa (size_le (grow_trans (by first | exact Below.refl _ _ | exact grow_drew (Below.refl _ _) | exact grow_alloc (Below.refl _ _) _ | exact grow_alloc (grow_drew (Below.refl _ _)) _ | exact grow_drew (grow_alloc (Below.refl _ _) _) : Below wa.heap.size wa _) hbwb)); rw [htwa.out.do3]; (first | (obtain ⟨t0, t1, t2, t3, tf, tl⟩ := fresh4 (V := wa) hbwb rfl) | (revert fr0; intro fr0; obtain ⟨t0, t1, t2, t3, tf, tl⟩ := fresh4_on hbwb fr0 fr1 fr2 fr3 frf rfl) | skip)))
          all_goals (go_wp2_with fail; go_meet)
          all_goals (
            go_split_ands
            first
              | exact ⟨rfl, Hid.out (by assumption)⟩
              | exact ⟨rfl, Hid.out (by assumption)⟩)
        case rest =>
          obtain ⟨rfl, hbc⟩ := hcut
          obtain ⟨W, hren⟩ : ∃ W : World, W = wc := ⟨_, rfl⟩
          subst hren
          have k0 := ext_cell hbc.out k0
          have k1 := ext_cell hbc.out k1
          have k2 := ext_cell hbc.out k2
          have k3 := ext_cell hbc.out k3
          have B4 : Hid (Below w.heap.size w W) := grow_trans B3.out hbc.out
          have hqq4 : Hid (StaQ STC q W) := hqq3.out.below hbc.out
          have hst4 : Hid (IsSteps W sa [(1, 0, 0), (1, 0, 1), (1, 2, 1)]) := hst3.out.below hbc.out
          have m0 := ext_cell hbc.out m0
          have m1 := ext_cell hbc.out m1
          have m2 := ext_cell hbc.out m2
          have m3 := ext_cell hbc.out m3
          have hm4 : Hid (StaQ MVC q5 W) := hm3.out.below hbc.out
          clear KS hqq3 B3 hst3 hm3 hbc
          obtain ⟨V, hren⟩ : ∃ V : World, V = W := ⟨_, rfl⟩
          subst hren
          go_upto_region 6 with fail
          have KS : Hid (∀ w', Below V.heap.size V w' → w'.cell? ⟨b5, 0, none⟩ = some (.slice q5.sa q5.sn q5.sc) ∧ w'.cell? ⟨b5, 1, none⟩ = some (.slice q5.ra q5.rn q5.rc) ∧ w'.cell? ⟨b5, 2, none⟩ = some (.slice q5.wa q5.wn q5.tc) ∧ w'.cell? ⟨b5, 3, none⟩ = some (.slice q5.va q5.vn q5.vc) ∧ Hid (Below V.heap.size V w')) := fun w' hb => ⟨ext_cell hb m0, ext_cell hb m1, ext_cell hb m2, ext_cell hb m3, hb⟩
          go_cut [12] (fun e wx => e = .int .i64 5 ∧ Hid (Below V.heap.size V wx))
          case first =>
            clear k0 k1 k2 k3 m0 m1 m2 m3 B4 hst4 hqq4
            go_region_held3 (fun w' => w'.cell? ⟨b5, 0, none⟩ = some (.slice q5.sa q5.sn q5.sc) ∧ w'.cell? ⟨b5, 1, none⟩ = some (.slice q5.ra q5.rn q5.rc) ∧ w'.cell? ⟨b5, 2, none⟩ = some (.slice q5.wa q5.wn q5.tc) ∧ w'.cell? ⟨b5, 3, none⟩ = some (.slice q5.va q5.vn q5.vc) ∧ Hid (Below V.heap.size V w')) ((refine KS.out _ ?_; go_split_ands; repeat (first | assumption | exact Below.refl _ _ | exact Hid.out (by assumption) | refine grow_drew ?_ | refine grow_alloc ?_ _ | refine grow_set ?_ (by first | exact Nat.le_refl _ | assumption) _ | refine grow_trans ?_ (by assumption))))
              (first
                | (go_at_call 56; refine (three_th _).mono ?_; rintro e wa ⟨lwa, awa, rfl, hlwa, htwa, hbwa⟩; have hzwa : V.heap.size ≤ wa.heap.size := size_le (grow_trans (by first | exact Below.refl _ _ | exact grow_drew (Below.refl _ _) | exact grow_alloc (Below.refl _ _) _ | exact grow_alloc (grow_drew (Below.refl _ _)) _ | exact grow_drew (grow_alloc (Below.refl _ _) _) : Below V.heap.size V _) hbwa); (first | (obtain ⟨fr0, fr1, fr2, fr3, frf, frl⟩ := fresh4 (V := V) hbwa rfl) | skip))
                | (go_at_call 26; refine (do_q 2 2 0 (m := 2) (S := MVC) (q := q5) (hlwa.out.below ?_) (hm4.out.below ?_)).mono ?_; (go_split_ands; repeat (first | exact Below.refl _ _ | exact grow_drew (Below.refl _ _) | exact grow_alloc (Below.refl _ _) _ | exact grow_drew (grow_alloc (Below.refl _ _) _) | exact grow_alloc (grow_drew (Below.refl _ _)) _)); (go_split_ands; first | exact Hid.out (by assumption) | (repeat (first | assumption | exact Below.refl _ _ | exact Hid.out (by assumption) | refine grow_drew ?_ | refine grow_alloc ?_ _ | refine grow_set ?_ (by first | exact Nat.le_refl _ | assumption) _ | refine grow_trans ?_ (by assumption)))); rintro e wb ⟨q6, rfl, h5, hbwb⟩; have hzwb : V.heap.size ≤ wb.heap.size := Nat.le_trans hzwa (size_le (grow_trans (by first | exact Below.refl _ _ | exact grow_drew (Below.refl _ _) | exact grow_alloc (Below.refl _ _) _ | exact grow_alloc (grow_drew (Below.refl _ _)) _ | exact grow_drew (grow_alloc (Below.refl _ _) _) : Below wa.heap.size wa _) hbwb)); rw [htwa.out.do4]; (first | (obtain ⟨t0, t1, t2, t3, tf, tl⟩ := fresh4 (V := wa) hbwb rfl) | (revert fr0; intro fr0; obtain ⟨t0, t1, t2, t3, tf, tl⟩ := fresh4_on hbwb fr0 fr1 fr2 fr3 frf rfl) | skip)))
            all_goals (go_wp2_with fail; go_meet)
            all_goals (
              go_split_ands
              first
                | exact ⟨rfl, Hid.out (by assumption)⟩
                | exact ⟨rfl, Hid.out (by assumption)⟩)
          case rest =>
            obtain ⟨rfl, hbc⟩ := hcut
            obtain ⟨W, hren⟩ : ∃ W : World, W = wc := ⟨_, rfl⟩
            subst hren
            have k0 := ext_cell hbc.out k0
            have k1 := ext_cell hbc.out k1
            have k2 := ext_cell hbc.out k2
            have k3 := ext_cell hbc.out k3
            have B5 : Hid (Below w.heap.size w W) := grow_trans B4.out hbc.out
            have hqq5 : Hid (StaQ STC q W) := hqq4.out.below hbc.out
            have hst5 : Hid (IsSteps W sa [(1, 0, 0), (1, 0, 1), (1, 2, 1)]) := hst4.out.below hbc.out
            have m0 := ext_cell hbc.out m0
            have m1 := ext_cell hbc.out m1
            have m2 := ext_cell hbc.out m2
            have m3 := ext_cell hbc.out m3
            have hm5 : Hid (StaQ MVC q5 W) := hm4.out.below hbc.out
            clear KS hqq4 B4 hst4 hm4 hbc
            obtain ⟨V, hren⟩ : ∃ V : World, V = W := ⟨_, rfl⟩
            subst hren
            go_upto_region 7 with fail
            have KS : Hid (∀ w', Below V.heap.size V w' → w'.cell? ⟨b1, 0, none⟩ = some (.slice q.sa q.sn q.sc) ∧ w'.cell? ⟨b1, 1, none⟩ = some (.slice q.ra q.rn q.rc) ∧ w'.cell? ⟨b1, 2, none⟩ = some (.slice q.wa q.wn q.tc) ∧ w'.cell? ⟨b1, 3, none⟩ = some (.slice q.va q.vn q.vc) ∧ Hid (Below V.heap.size V w')) := fun w' hb => ⟨ext_cell hb k0, ext_cell hb k1, ext_cell hb k2, ext_cell hb k3, hb⟩
            go_cut [13, 14] (fun s e wx => s = .bool false ∧ e = .int .i64 0 ∧ Hid (Below V.heap.size V wx))
            case first =>
              clear k0 k1 k2 k3 m0 m1 m2 m3 B5 hst5 hm5
              go_region_held3 (fun w' => w'.cell? ⟨b1, 0, none⟩ = some (.slice q.sa q.sn q.sc) ∧ w'.cell? ⟨b1, 1, none⟩ = some (.slice q.ra q.rn q.rc) ∧ w'.cell? ⟨b1, 2, none⟩ = some (.slice q.wa q.wn q.tc) ∧ w'.cell? ⟨b1, 3, none⟩ = some (.slice q.va q.vn q.vc) ∧ Hid (Below V.heap.size V w')) ((refine KS.out _ ?_; go_split_ands; repeat (first | assumption | exact Below.refl _ _ | exact Hid.out (by assumption) | refine grow_drew ?_ | refine grow_alloc ?_ _ | refine grow_set ?_ (by first | exact Nat.le_refl _ | assumption) _ | refine grow_trans ?_ (by assumption))))
                (first
                  | (go_at_call 56; refine (three_th _).mono ?_; rintro e wa ⟨lwa, awa, rfl, hlwa, htwa, hbwa⟩; have hzwa : V.heap.size ≤ wa.heap.size := size_le (grow_trans (by first | exact Below.refl _ _ | exact grow_drew (Below.refl _ _) | exact grow_alloc (Below.refl _ _) _ | exact grow_alloc (grow_drew (Below.refl _ _)) _ | exact grow_drew (grow_alloc (Below.refl _ _) _) : Below V.heap.size V _) hbwa))
                  | (go_at_call 15; refine (over_q (m := 2) (S := STC) (q := q) (hlwa.out.below ?_) (hqq5.out.below ?_)).mono ?_; (go_split_ands; repeat (first | exact Below.refl _ _ | exact grow_drew (Below.refl _ _))); (go_split_ands; first | exact Hid.out (by assumption) | (repeat (first | assumption | exact Below.refl _ _ | exact Hid.out (by assumption) | refine grow_drew ?_ | refine grow_alloc ?_ _ | refine grow_set ?_ (by first | exact Nat.le_refl _ | assumption) _ | refine grow_trans ?_ (by assumption)))); rintro e wb ⟨rfl, hbwb⟩; rw [htwa.out.st, htwa.out.ov]))
              all_goals (go_wp2_with fail; go_meet)
              all_goals (
                go_split_ands
                exact ⟨rfl, rfl, Hid.out (by assumption)⟩)
            case rest =>
              obtain ⟨rfl, rfl, hbc⟩ := hcut
              obtain ⟨W, hren⟩ : ∃ W : World, W = wc := ⟨_, rfl⟩
              subst hren
              have k0 := ext_cell hbc.out k0
              have k1 := ext_cell hbc.out k1
              have k2 := ext_cell hbc.out k2
              have k3 := ext_cell hbc.out k3
              have B6 : Hid (Below w.heap.size w W) := grow_trans B5.out hbc.out
              have hqq6 : Hid (StaQ STC q W) := hqq5.out.below hbc.out
              have hst6 : Hid (IsSteps W sa [(1, 0, 0), (1, 0, 1), (1, 2, 1)]) := hst5.out.below hbc.out
              have m0 := ext_cell hbc.out m0
              have m1 := ext_cell hbc.out m1
              have m2 := ext_cell hbc.out m2
              have m3 := ext_cell hbc.out m3
              have hm6 : Hid (StaQ MVC q5 W) := hm5.out.below hbc.out
              clear KS hqq5 B5 hst5 hm5 hbc
              obtain ⟨V, hren⟩ : ∃ V : World, V = W := ⟨_, rfl⟩
              subst hren
              have hvs : Hid (MVC.vs = [[0, 1], [0], []]) := th_vs
              obtain ⟨bv, ov, a0, c0, ev, _, v0, vi, vz⟩ := hm6.out.2.2.2.2.vs 0 (by rw [hvs.out]; decide)
              have evn : q5.vn = 3 := hm6.out.2.2.2.1.trans (by rw [hvs.out]; rfl)
              rw [hvs.out] at v0 vi
              have v0 : V.cell? ⟨bv, ov, none⟩ = some (.slice a0 2 c0) := v0
              have VI : Hid (IsInts V a0 [0, 1]) := vi
              rw [ev, evn] at m3
              obtain ⟨bs, os, es, _, s0, s1, s2⟩ := hst6.out 2 (by decide)
              have s0 : V.cell? ⟨bs, os + 6, none⟩ = some (.int .i64 1) := s0
              have s1 : V.cell? ⟨bs, os + 6 + 1, none⟩ = some (.int .i64 2) := s1
              have s2 : V.cell? ⟨bs, os + 6 + 2, none⟩ = some (.int .i64 1) := s2
              subst es
              clear vi vz ev evn hst6 hm6 m0 m1 m2 hvs
              have q48 : ∀ w, (binOp .eql 48 (.agg #[.int .i64 1, .int .i64 2, .int .i64 1]) (.agg #[.int .i64 1, .int .i64 2, .int .i64 1])).run Tryz.prog w = .ok (.bool true) w := fun w => by kernel_rfl
              have KS : Hid (∀ w', Below V.heap.size V w' → w'.cell? ⟨b1, 0, none⟩ = some (.slice q.sa q.sn q.sc) ∧ w'.cell? ⟨b1, 1, none⟩ = some (.slice q.ra q.rn q.rc) ∧ w'.cell? ⟨b1, 2, none⟩ = some (.slice q.wa q.wn q.tc) ∧ w'.cell? ⟨b1, 3, none⟩ = some (.slice q.va q.vn q.vc) ∧ w'.cell? ⟨b5, 3, none⟩ = some (.slice (some ⟨bv, ov, none⟩) 3 q5.vc) ∧ w'.cell? ⟨bv, ov, none⟩ = some (.slice a0 2 c0) ∧ w'.cell? ⟨bs, os + 6, none⟩ = some (.int .i64 1) ∧ w'.cell? ⟨bs, os + 6 + 1, none⟩ = some (.int .i64 2) ∧ w'.cell? ⟨bs, os + 6 + 2, none⟩ = some (.int .i64 1) ∧ Hid (Below V.heap.size V w')) := fun w' hb => ⟨ext_cell hb k0, ext_cell hb k1, ext_cell hb k2, ext_cell hb k3, ext_cell hb m3, ext_cell hb v0, ext_cell hb s0, ext_cell hb s1, ext_cell hb s2, hb⟩
              go_upto_region 8 with fail
              go_region_held3 (fun w' => w'.cell? ⟨b1, 0, none⟩ = some (.slice q.sa q.sn q.sc) ∧ w'.cell? ⟨b1, 1, none⟩ = some (.slice q.ra q.rn q.rc) ∧ w'.cell? ⟨b1, 2, none⟩ = some (.slice q.wa q.wn q.tc) ∧ w'.cell? ⟨b1, 3, none⟩ = some (.slice q.va q.vn q.vc) ∧ w'.cell? ⟨b5, 3, none⟩ = some (.slice (some ⟨bv, ov, none⟩) 3 q5.vc) ∧ w'.cell? ⟨bv, ov, none⟩ = some (.slice a0 2 c0) ∧ w'.cell? ⟨bs, os + 6, none⟩ = some (.int .i64 1) ∧ w'.cell? ⟨bs, os + 6 + 1, none⟩ = some (.int .i64 2) ∧ w'.cell? ⟨bs, os + 6 + 2, none⟩ = some (.int .i64 1) ∧ Hid (Below V.heap.size V w')) ((refine KS.out _ ?_; go_split_ands; repeat (first | assumption | exact Below.refl _ _ | exact Hid.out (by assumption) | refine grow_drew ?_ | refine grow_alloc ?_ _ | refine grow_trans ?_ (by assumption))))
                (first
                  | (go_at_call 56; refine (three_th _).mono ?_; rintro e wa ⟨lwa, awa, rfl, hlwa, htwa, hbwa⟩; have hzwa := size_le hbwa)
                  | (go_at_call_of 22 (Value.slice none 0 0); refine (check_q (m := 2) (S := SNil) (q := qNil) (hlwa.out.below ?_) (staQ_nil _)).mono ?_; (go_split_ands; repeat (first | exact Below.refl _ _ | exact grow_drew (Below.refl _ _))); rintro e wb ⟨rfl, hbwb⟩; have hzwb := size_le hbwb; rw [htwa.out.s0])
                  | (go_at_call 22; refine (check_q (m := 2) (S := STC) (q := q) (hlwa.out.below ?_) (hqq6.out.below ?_)).mono ?_; (go_split_ands; repeat (first | exact Below.refl _ _ | exact grow_drew (Below.refl _ _))); (go_split_ands; first | exact Hid.out (by assumption) | (repeat (first | assumption | exact Below.refl _ _ | exact Hid.out (by assumption) | refine grow_drew ?_ | refine grow_alloc ?_ _ | refine grow_trans ?_ (by assumption)))); rintro e wb ⟨rfl, hbwb⟩; have hzwb := size_le hbwb; rw [htwa.out.st])
                  | (go_at_call 37; refine (sameInts_any [0, 1] [0, 1] a0 _ c0 2 _ (by decide) (VI.out.below ?_) (ints_two _ _ _ _ (by first | rfl | simp))).mono ?_; (go_split_ands; repeat (first | assumption | exact Below.refl _ _ | exact Hid.out (by assumption) | refine grow_drew ?_ | refine grow_alloc ?_ _ | refine grow_trans ?_ (by assumption))); rintro e wd ⟨rfl, hbwd⟩; have hzwd := size_le hbwd))
              all_goals (
                go_split_ands
                go_wp2
                go_ret
                exact ⟨rfl, grow_trans B6.out (by first | exact Hid.out (by assumption) | (repeat (first | assumption | exact Below.refl _ _ | exact Hid.out (by assumption) | refine grow_drew ?_ | refine grow_alloc ?_ _ | refine grow_trans ?_ (by assumption))))⟩)
end Go.Proofs.YtebjkmknhpgemaaGreat

namespace Go.Proofs.YtebjkmknhpgemaaGreat
open Go.RowKit

set_option maxRecDepth 100000 in
theorem eqIn48 (w : World) (a b c a' b' c' : Int) : (Op.equalIn 10000 48 (.agg #[.int .i64 a, .int .i64 b, .int .i64 c]) (.agg #[.int .i64 a', .int .i64 b', .int .i64 c'])).run Tryz.prog w = .ok (a == a' && b == b' && c == c') w := by
  have u3 := Tryz.underlying3
  have hS : Tryz.prog.underlying 48 = some (.struct (Tryz.prog.fieldsOf 48)) := by kernel_rfl
  rw [show (10000 : Nat) = 9999 + 1 from rfl, run_equalIn_agg w 9999 48 _ _ hS (by kernel_rfl)]
  simp only [Program.fieldsOf, Tryz.underlying48]
  go_simp
  by_cases h1 : a = a' <;> by_cases h2 : b = b' <;> by_cases h3 : c = c' <;> simp [h1, h2, h3]
theorem canL_len (sh : Nat) (l : List TxA) (S : SA) (h8 : l.length ≤ 8) (h4 : sh ≤ 4) : (canL sh l S).length ≤ 64 := by
  unfold canL canK
  rw [List.length_append]
  have a := canT_len sh l S 1 l.length
  have b := canT_len sh l S 2 l.length
  have c : l.length * sh ≤ 8 * 4 := Nat.mul_le_mul h8 h4
  omega
theorem can_any (sh : Nat) (l : List TxA) (S : SA) (kd n k : Int) : (canL sh l S).any (fun x => (x.1 : Int) == kd && (x.2.1 : Int) == n && (x.2.2 : Int) == k) = decide (stepE sh l S kd n k = 0) := by
  rw [Bool.eq_iff_iff, List.any_eq_true, decide_eq_true_eq]
  constructor
  · rintro ⟨⟨K, N, j⟩, hx, e⟩
    obtain ⟨h1, h2, h3, h4⟩ := canL_mem.1 hx
    simp only [Bool.and_eq_true, beq_iff_eq] at e
    obtain ⟨⟨e1, e2⟩, e3⟩ := e
    subst e1 e2 e3
    have h1 : K = 1 ∨ K = 2 := h1
    have h2 : N < l.length := h2
    have h3 : j < sh := h3
    have h4 : mayB sh l S K N j = true := h4
    unfold mayB at h4
    simp only [Bool.and_eq_true, Bool.not_eq_true'] at h4
    obtain ⟨⟨a1, a2⟩, a3⟩ := h4
    unfold stepE
    rw [if_pos (by omega), if_neg (by omega)]
    simp only [Int.toNat_natCast]
    rw [if_pos a1, if_neg (by rw [a2]; simp), if_pos a3]
  · intro h
    obtain ⟨K, N, k', rfl, rfl, rfl, hK, hN, hk, a1, a2, a3⟩ := stepE_zero h
    refine ⟨(K, N, k'), canL_mem.2 ⟨hK, hN, hk, ?_⟩, by simp⟩
    show mayB sh l S K N k' = true
    unfold mayB
    rw [a1, a2, a3]; rfl
theorem can_over {m : Int} {l : List TxA} {S : SA} (h : stE m l S = 0) : ovE m l S = decide ((canE m l S).length = 0) := by
  have e1 : ovE m l S = overB m.toNat l S := if_pos h
  have e2 : canE m l S = canL m.toNat l S := if_pos h
  obtain ⟨sh, rfl, _, _, _, _, _, ht⟩ := stE_zero h
  rw [e1, e2]
  show overB sh l S = decide ((canL sh l S).length = 0)
  cases ho : overB sh l S with
  | true => rw [over_none (truthB_iff.1 ht) ho]; rfl
  | false =>
    have := some_can ho
    symm
    rw [decide_eq_false_iff_not]
    exact fun e => this (List.eq_nil_of_length_eq_zero e)
theorem do_st {m : Int} {l : List TxA} {S : SA} {kd n k : Int} (h : stE m l S = 0) (hd : doE m l S kd n k = 0) : stE m l (doS m l S kd n k) = 0 := by
  have e2 : doS m l S kd n k = doX m.toNat l S kd.toNat n.toNat k.toNat := if_pos hd
  have e1 : doE m l S kd n k = stepE m.toNat l S kd n k := if_pos h
  rw [e1] at hd
  rw [e2]
  obtain ⟨sh, rfl, _, _, _, hp, hf, ht⟩ := stE_zero h
  simp only [Int.toNat_natCast] at hd ⊢
  obtain ⟨K, N, k', rfl, rfl, rfl, hK, hN, hk, a1, a2, a3⟩ := stepE_zero hd
  simp only [Int.toNat_natCast]
  have hm : mayB sh l S K N k' = true := by unfold mayB; rw [a1, a2, a3]; rfl
  have f' := do_form (kind := K) (k := k') (formB_iff.1 hf) hN
  have t' := do_truth hK (formB_iff.1 hf) (truthB_iff.1 ht) hN hk hm
  unfold stE
  rw [if_pos hp]
  show (if formB sh l (doX sh l S K N k') && truthB sh l (doX sh l S K N k') then (0 : Int) else 1) = 0
  rw [formB_iff.2 f', truthB_iff.2 t']; rfl
theorem any_takeS {α : Type} (P : α → Bool) (L : List α) (d : α) (j : Nat) (h : j < L.length) : (L.take (j + 1)).any P = ((L.take j).any P || P (L.getD j d)) := by
  rw [List.take_add_one, List.any_append, List.getD_eq_getElem?_getD, List.getElem?_eq_getElem h]
  simp

variable (la : Option Addr) (lc : Nat) (l : List TxA) (sa ra wa va : Option Addr) (sc rc tc vc : Nat) (S : SA)

set_option maxRecDepth 100000 in
set_option maxHeartbeats 4000000 in
theorem stepsRight_bad (HB : ∀ w, Calls Tryz.prog 20 #[] w fun e w' => e = .returned (.bool true) ∧ Below w.heap.size w w') (m kd n k : Int) (w : World) (hl : IsTxs w la l) (hs : Sta w sa ra wa va S) (hE : ¬ stE m l S = 0) :
    Calls Tryz.prog 6 #[.agg #[.int .i64 m, .slice la l.length lc], .agg #[.slice sa S.st.length sc, .slice ra S.rd.length rc, .slice wa S.wr.length tc, .slice va S.vs.length vc], .agg #[.int .i64 kd, .int .i64 n, .int .i64 k]] w fun e w' => e = .returned (.bool true) ∧ Below w.heap.size w w' := by
  have hg : Below w.heap.size w (((w.alloc (.cells #[.int .i64 m, .slice la l.length lc] 24)).alloc (.cells #[.slice sa S.st.length sc, .slice ra S.rd.length rc, .slice wa S.wr.length tc, .slice va S.vs.length vc] 29)).alloc (.cells #[.int .i64 kd, .int .i64 n, .int .i64 k] 48)) := (grow_alloc (grow_alloc (grow_alloc (Below.refl _ _) _) _) _)
  have HBB : Hid (∀ w, Calls Tryz.prog 20 #[] w fun e w' => e = .returned (.bool true) ∧ Below w.heap.size w w') := HB
  have p0 : (((w.alloc (.cells #[.int .i64 m, .slice la l.length lc] 24)).alloc (.cells #[.slice sa S.st.length sc, .slice ra S.rd.length rc, .slice wa S.wr.length tc, .slice va S.vs.length vc] 29)).alloc (.cells #[.int .i64 kd, .int .i64 n, .int .i64 k] 48)).cell? ⟨w.heap.size, 0, none⟩ = some (.int .i64 m) := ext_cell (grow_alloc (grow_alloc (Below.refl _ _) _) _) (at_new _ _ 24 _ 0 _ (by first | rfl | simp) rfl)
  have p1 : (((w.alloc (.cells #[.int .i64 m, .slice la l.length lc] 24)).alloc (.cells #[.slice sa S.st.length sc, .slice ra S.rd.length rc, .slice wa S.wr.length tc, .slice va S.vs.length vc] 29)).alloc (.cells #[.int .i64 kd, .int .i64 n, .int .i64 k] 48)).cell? ⟨w.heap.size, 1, none⟩ = some (.slice la l.length lc) := ext_cell (grow_alloc (grow_alloc (Below.refl _ _) _) _) (at_new _ _ 24 _ 1 _ (by first | rfl | simp) rfl)
  have q0 : (((w.alloc (.cells #[.int .i64 m, .slice la l.length lc] 24)).alloc (.cells #[.slice sa S.st.length sc, .slice ra S.rd.length rc, .slice wa S.wr.length tc, .slice va S.vs.length vc] 29)).alloc (.cells #[.int .i64 kd, .int .i64 n, .int .i64 k] 48)).cell? ⟨w.heap.size + 1, 0, none⟩ = some (.slice sa S.st.length sc) := ext_cell (grow_alloc (Below.refl _ _) _) (at_new _ _ 29 _ 0 _ (by first | rfl | simp) rfl)
  have q1 : (((w.alloc (.cells #[.int .i64 m, .slice la l.length lc] 24)).alloc (.cells #[.slice sa S.st.length sc, .slice ra S.rd.length rc, .slice wa S.wr.length tc, .slice va S.vs.length vc] 29)).alloc (.cells #[.int .i64 kd, .int .i64 n, .int .i64 k] 48)).cell? ⟨w.heap.size + 1, 1, none⟩ = some (.slice ra S.rd.length rc) := ext_cell (grow_alloc (Below.refl _ _) _) (at_new _ _ 29 _ 1 _ (by first | rfl | simp) rfl)
  have q2 : (((w.alloc (.cells #[.int .i64 m, .slice la l.length lc] 24)).alloc (.cells #[.slice sa S.st.length sc, .slice ra S.rd.length rc, .slice wa S.wr.length tc, .slice va S.vs.length vc] 29)).alloc (.cells #[.int .i64 kd, .int .i64 n, .int .i64 k] 48)).cell? ⟨w.heap.size + 1, 2, none⟩ = some (.slice wa S.wr.length tc) := ext_cell (grow_alloc (Below.refl _ _) _) (at_new _ _ 29 _ 2 _ (by first | rfl | simp) rfl)
  have q3 : (((w.alloc (.cells #[.int .i64 m, .slice la l.length lc] 24)).alloc (.cells #[.slice sa S.st.length sc, .slice ra S.rd.length rc, .slice wa S.wr.length tc, .slice va S.vs.length vc] 29)).alloc (.cells #[.int .i64 kd, .int .i64 n, .int .i64 k] 48)).cell? ⟨w.heap.size + 1, 3, none⟩ = some (.slice va S.vs.length vc) := ext_cell (grow_alloc (Below.refl _ _) _) (at_new _ _ 29 _ 3 _ (by first | rfl | simp) rfl)
  have r0 : (((w.alloc (.cells #[.int .i64 m, .slice la l.length lc] 24)).alloc (.cells #[.slice sa S.st.length sc, .slice ra S.rd.length rc, .slice wa S.wr.length tc, .slice va S.vs.length vc] 29)).alloc (.cells #[.int .i64 kd, .int .i64 n, .int .i64 k] 48)).cell? ⟨w.heap.size + 2, 0, none⟩ = some (.int .i64 kd) := ext_cell (Below.refl _ _) (at_new _ _ 48 _ 0 _ (by first | rfl | simp) rfl)
  have r1 : (((w.alloc (.cells #[.int .i64 m, .slice la l.length lc] 24)).alloc (.cells #[.slice sa S.st.length sc, .slice ra S.rd.length rc, .slice wa S.wr.length tc, .slice va S.vs.length vc] 29)).alloc (.cells #[.int .i64 kd, .int .i64 n, .int .i64 k] 48)).cell? ⟨w.heap.size + 2, 1, none⟩ = some (.int .i64 n) := ext_cell (Below.refl _ _) (at_new _ _ 48 _ 1 _ (by first | rfl | simp) rfl)
  have r2 : (((w.alloc (.cells #[.int .i64 m, .slice la l.length lc] 24)).alloc (.cells #[.slice sa S.st.length sc, .slice ra S.rd.length rc, .slice wa S.wr.length tc, .slice va S.vs.length vc] 29)).alloc (.cells #[.int .i64 kd, .int .i64 n, .int .i64 k] 48)).cell? ⟨w.heap.size + 2, 2, none⟩ = some (.int .i64 k) := ext_cell (Below.refl _ _) (at_new _ _ 48 _ 2 _ (by first | rfl | simp) rfl)
  have KEEP : Hid (∀ w', Below (((w.alloc (.cells #[.int .i64 m, .slice la l.length lc] 24)).alloc (.cells #[.slice sa S.st.length sc, .slice ra S.rd.length rc, .slice wa S.wr.length tc, .slice va S.vs.length vc] 29)).alloc (.cells #[.int .i64 kd, .int .i64 n, .int .i64 k] 48)).heap.size (((w.alloc (.cells #[.int .i64 m, .slice la l.length lc] 24)).alloc (.cells #[.slice sa S.st.length sc, .slice ra S.rd.length rc, .slice wa S.wr.length tc, .slice va S.vs.length vc] 29)).alloc (.cells #[.int .i64 kd, .int .i64 n, .int .i64 k] 48)) w' → w'.cell? ⟨w.heap.size, 0, none⟩ = some (.int .i64 m) ∧ w'.cell? ⟨w.heap.size, 1, none⟩ = some (.slice la l.length lc) ∧ w'.cell? ⟨w.heap.size + 1, 0, none⟩ = some (.slice sa S.st.length sc) ∧ w'.cell? ⟨w.heap.size + 1, 1, none⟩ = some (.slice ra S.rd.length rc) ∧ w'.cell? ⟨w.heap.size + 1, 2, none⟩ = some (.slice wa S.wr.length tc) ∧ w'.cell? ⟨w.heap.size + 1, 3, none⟩ = some (.slice va S.vs.length vc) ∧ w'.cell? ⟨w.heap.size + 2, 0, none⟩ = some (.int .i64 kd) ∧ w'.cell? ⟨w.heap.size + 2, 1, none⟩ = some (.int .i64 n) ∧ w'.cell? ⟨w.heap.size + 2, 2, none⟩ = some (.int .i64 k)) := fun w' hb => ⟨ext_cell hb p0, ext_cell hb p1, ext_cell hb q0, ext_cell hb q1, ext_cell hb q2, ext_cell hb q3, ext_cell hb r0, ext_cell hb r1, ext_cell hb r2⟩
  have CN : Hid (∀ w', Below (((w.alloc (.cells #[.int .i64 m, .slice la l.length lc] 24)).alloc (.cells #[.slice sa S.st.length sc, .slice ra S.rd.length rc, .slice wa S.wr.length tc, .slice va S.vs.length vc] 29)).alloc (.cells #[.int .i64 kd, .int .i64 n, .int .i64 k] 48)).heap.size (((w.alloc (.cells #[.int .i64 m, .slice la l.length lc] 24)).alloc (.cells #[.slice sa S.st.length sc, .slice ra S.rd.length rc, .slice wa S.wr.length tc, .slice va S.vs.length vc] 29)).alloc (.cells #[.int .i64 kd, .int .i64 n, .int .i64 k] 48)) w' → Calls Tryz.prog 24 #[.agg #[.int .i64 m, .slice la l.length lc], .agg #[.slice sa S.st.length sc, .slice ra S.rd.length rc, .slice wa S.wr.length tc, .slice va S.vs.length vc]] w' fun e w'' => ∃ a c, e = .returned (.tuple #[.slice a (canE m l S).length c, .int .i64 (stE m l S)]) ∧ IsSteps w'' a (canE m l S) ∧ Below w'.heap.size w' w'') := fun w' hb => stepsCan_any la lc l sa ra wa va sc rc tc vc S m w' ((hl.below hg).below hb) ((hs.below hg).below hb)
  have CO : Hid (∀ w', Below (((w.alloc (.cells #[.int .i64 m, .slice la l.length lc] 24)).alloc (.cells #[.slice sa S.st.length sc, .slice ra S.rd.length rc, .slice wa S.wr.length tc, .slice va S.vs.length vc] 29)).alloc (.cells #[.int .i64 kd, .int .i64 n, .int .i64 k] 48)).heap.size (((w.alloc (.cells #[.int .i64 m, .slice la l.length lc] 24)).alloc (.cells #[.slice sa S.st.length sc, .slice ra S.rd.length rc, .slice wa S.wr.length tc, .slice va S.vs.length vc] 29)).alloc (.cells #[.int .i64 kd, .int .i64 n, .int .i64 k] 48)) w' → Calls Tryz.prog 15 #[.agg #[.int .i64 m, .slice la l.length lc], .agg #[.slice sa S.st.length sc, .slice ra S.rd.length rc, .slice wa S.wr.length tc, .slice va S.vs.length vc]] w' fun e w'' => e = .returned (.tuple #[.bool (ovE m l S), .int .i64 (stE m l S)]) ∧ Below w'.heap.size w' w'') := fun w' hb => stepsOver_any la lc l sa ra wa va sc rc tc vc S m w' ((hl.below hg).below hb) ((hs.below hg).below hb)
  have HG : Hid (Below w.heap.size w (((w.alloc (.cells #[.int .i64 m, .slice la l.length lc] 24)).alloc (.cells #[.slice sa S.st.length sc, .slice ra S.rd.length rc, .slice wa S.wr.length tc, .slice va S.vs.length vc] 29)).alloc (.cells #[.int .i64 kd, .int .i64 n, .int .i64 k] 48))) := hg
  have hb : (stE m l S != 0) = true := by simpa using hE
  clear hl hs hg HB p0 p1 q0 q1 q2 q3 r0 r1 r2
  generalize stE m l S = E at *
  generalize ovE m l S = O at *
  generalize canE m l S = L at *
  go_enter Tryz.func6, Tryz.ntmps6
  go_upto_region 1 with fail
  generalize (((w.alloc (.cells #[.int .i64 m, .slice la l.length lc] 24)).alloc (.cells #[.slice sa S.st.length sc, .slice ra S.rd.length rc, .slice wa S.wr.length tc, .slice va S.vs.length vc] 29)).alloc (.cells #[.int .i64 kd, .int .i64 n, .int .i64 k] 48)) = W at *
  obtain ⟨p0, p1, q0, q1, q2, q3, r0, r1, r2⟩ := KEEP.out W (Below.refl _ _)
  go_wp2_with fail
  refine (CN.out _ (Below.refl _ _)).mono ?_
  rintro e w1 ⟨a, c, rfl, _, hb1⟩
  have B1 : Hid (Below W.heap.size W w1) := hb1
  clear hb1 CN p0 p1 q0 q1 q2 q3 r0 r1 r2
  obtain ⟨p0, p1, q0, q1, q2, q3, r0, r1, r2⟩ := KEEP.out w1 B1.out
  go_wp2_with fail
  refine (CO.out _ B1.out).mono ?_
  rintro e w2 ⟨rfl, hb2⟩
  have B2 : Hid (Below w.heap.size w w2) := grow_trans HG.out (grow_trans B1.out hb2)
  clear hb2 CO p0 p1 q0 q1 q2 q3 r0 r1 r2 KEEP
  go_wp2_with fail
  refine (HBB.out _).mono ?_
  rintro e w3 ⟨rfl, hb3⟩
  have B3 : Hid (Below w.heap.size w w3) := grow_trans B2.out hb3
  clear hb3
  go_wp2
  go_ret
  exact ⟨by simp, B3.out⟩

set_option maxRecDepth 100000 in
set_option maxHeartbeats 4000000 in
theorem stepsRight_ok (HB : ∀ w, Calls Tryz.prog 20 #[] w fun e w' => e = .returned (.bool true) ∧ Below w.heap.size w w') (m kd n k : Int) (w : World) (hl : IsTxs w la l) (hs : Sta w sa ra wa va S) (hE : stE m l S = 0) :
    Calls Tryz.prog 6 #[.agg #[.int .i64 m, .slice la l.length lc], .agg #[.slice sa S.st.length sc, .slice ra S.rd.length rc, .slice wa S.wr.length tc, .slice va S.vs.length vc], .agg #[.int .i64 kd, .int .i64 n, .int .i64 k]] w fun e w' => e = .returned (.bool true) ∧ Below w.heap.size w w' := by
  have he48 := eqIn48
  have hg : Below w.heap.size w (((w.alloc (.cells #[.int .i64 m, .slice la l.length lc] 24)).alloc (.cells #[.slice sa S.st.length sc, .slice ra S.rd.length rc, .slice wa S.wr.length tc, .slice va S.vs.length vc] 29)).alloc (.cells #[.int .i64 kd, .int .i64 n, .int .i64 k] 48)) := (grow_alloc (grow_alloc (grow_alloc (Below.refl _ _) _) _) _)
  have HBB : Hid (∀ w, Calls Tryz.prog 20 #[] w fun e w' => e = .returned (.bool true) ∧ Below w.heap.size w w') := HB
  have p0 : (((w.alloc (.cells #[.int .i64 m, .slice la l.length lc] 24)).alloc (.cells #[.slice sa S.st.length sc, .slice ra S.rd.length rc, .slice wa S.wr.length tc, .slice va S.vs.length vc] 29)).alloc (.cells #[.int .i64 kd, .int .i64 n, .int .i64 k] 48)).cell? ⟨w.heap.size, 0, none⟩ = some (.int .i64 m) := ext_cell (grow_alloc (grow_alloc (Below.refl _ _) _) _) (at_new _ _ 24 _ 0 _ (by first | rfl | simp) rfl)
  have p1 : (((w.alloc (.cells #[.int .i64 m, .slice la l.length lc] 24)).alloc (.cells #[.slice sa S.st.length sc, .slice ra S.rd.length rc, .slice wa S.wr.length tc, .slice va S.vs.length vc] 29)).alloc (.cells #[.int .i64 kd, .int .i64 n, .int .i64 k] 48)).cell? ⟨w.heap.size, 1, none⟩ = some (.slice la l.length lc) := ext_cell (grow_alloc (grow_alloc (Below.refl _ _) _) _) (at_new _ _ 24 _ 1 _ (by first | rfl | simp) rfl)
  have q0 : (((w.alloc (.cells #[.int .i64 m, .slice la l.length lc] 24)).alloc (.cells #[.slice sa S.st.length sc, .slice ra S.rd.length rc, .slice wa S.wr.length tc, .slice va S.vs.length vc] 29)).alloc (.cells #[.int .i64 kd, .int .i64 n, .int .i64 k] 48)).cell? ⟨w.heap.size + 1, 0, none⟩ = some (.slice sa S.st.length sc) := ext_cell (grow_alloc (Below.refl _ _) _) (at_new _ _ 29 _ 0 _ (by first | rfl | simp) rfl)
  have q1 : (((w.alloc (.cells #[.int .i64 m, .slice la l.length lc] 24)).alloc (.cells #[.slice sa S.st.length sc, .slice ra S.rd.length rc, .slice wa S.wr.length tc, .slice va S.vs.length vc] 29)).alloc (.cells #[.int .i64 kd, .int .i64 n, .int .i64 k] 48)).cell? ⟨w.heap.size + 1, 1, none⟩ = some (.slice ra S.rd.length rc) := ext_cell (grow_alloc (Below.refl _ _) _) (at_new _ _ 29 _ 1 _ (by first | rfl | simp) rfl)
  have q2 : (((w.alloc (.cells #[.int .i64 m, .slice la l.length lc] 24)).alloc (.cells #[.slice sa S.st.length sc, .slice ra S.rd.length rc, .slice wa S.wr.length tc, .slice va S.vs.length vc] 29)).alloc (.cells #[.int .i64 kd, .int .i64 n, .int .i64 k] 48)).cell? ⟨w.heap.size + 1, 2, none⟩ = some (.slice wa S.wr.length tc) := ext_cell (grow_alloc (Below.refl _ _) _) (at_new _ _ 29 _ 2 _ (by first | rfl | simp) rfl)
  have q3 : (((w.alloc (.cells #[.int .i64 m, .slice la l.length lc] 24)).alloc (.cells #[.slice sa S.st.length sc, .slice ra S.rd.length rc, .slice wa S.wr.length tc, .slice va S.vs.length vc] 29)).alloc (.cells #[.int .i64 kd, .int .i64 n, .int .i64 k] 48)).cell? ⟨w.heap.size + 1, 3, none⟩ = some (.slice va S.vs.length vc) := ext_cell (grow_alloc (Below.refl _ _) _) (at_new _ _ 29 _ 3 _ (by first | rfl | simp) rfl)
  have r0 : (((w.alloc (.cells #[.int .i64 m, .slice la l.length lc] 24)).alloc (.cells #[.slice sa S.st.length sc, .slice ra S.rd.length rc, .slice wa S.wr.length tc, .slice va S.vs.length vc] 29)).alloc (.cells #[.int .i64 kd, .int .i64 n, .int .i64 k] 48)).cell? ⟨w.heap.size + 2, 0, none⟩ = some (.int .i64 kd) := ext_cell (Below.refl _ _) (at_new _ _ 48 _ 0 _ (by first | rfl | simp) rfl)
  have r1 : (((w.alloc (.cells #[.int .i64 m, .slice la l.length lc] 24)).alloc (.cells #[.slice sa S.st.length sc, .slice ra S.rd.length rc, .slice wa S.wr.length tc, .slice va S.vs.length vc] 29)).alloc (.cells #[.int .i64 kd, .int .i64 n, .int .i64 k] 48)).cell? ⟨w.heap.size + 2, 1, none⟩ = some (.int .i64 n) := ext_cell (Below.refl _ _) (at_new _ _ 48 _ 1 _ (by first | rfl | simp) rfl)
  have r2 : (((w.alloc (.cells #[.int .i64 m, .slice la l.length lc] 24)).alloc (.cells #[.slice sa S.st.length sc, .slice ra S.rd.length rc, .slice wa S.wr.length tc, .slice va S.vs.length vc] 29)).alloc (.cells #[.int .i64 kd, .int .i64 n, .int .i64 k] 48)).cell? ⟨w.heap.size + 2, 2, none⟩ = some (.int .i64 k) := ext_cell (Below.refl _ _) (at_new _ _ 48 _ 2 _ (by first | rfl | simp) rfl)
  have KEEP : Hid (∀ w', Below (((w.alloc (.cells #[.int .i64 m, .slice la l.length lc] 24)).alloc (.cells #[.slice sa S.st.length sc, .slice ra S.rd.length rc, .slice wa S.wr.length tc, .slice va S.vs.length vc] 29)).alloc (.cells #[.int .i64 kd, .int .i64 n, .int .i64 k] 48)).heap.size (((w.alloc (.cells #[.int .i64 m, .slice la l.length lc] 24)).alloc (.cells #[.slice sa S.st.length sc, .slice ra S.rd.length rc, .slice wa S.wr.length tc, .slice va S.vs.length vc] 29)).alloc (.cells #[.int .i64 kd, .int .i64 n, .int .i64 k] 48)) w' → w'.cell? ⟨w.heap.size, 0, none⟩ = some (.int .i64 m) ∧ w'.cell? ⟨w.heap.size, 1, none⟩ = some (.slice la l.length lc) ∧ w'.cell? ⟨w.heap.size + 1, 0, none⟩ = some (.slice sa S.st.length sc) ∧ w'.cell? ⟨w.heap.size + 1, 1, none⟩ = some (.slice ra S.rd.length rc) ∧ w'.cell? ⟨w.heap.size + 1, 2, none⟩ = some (.slice wa S.wr.length tc) ∧ w'.cell? ⟨w.heap.size + 1, 3, none⟩ = some (.slice va S.vs.length vc) ∧ w'.cell? ⟨w.heap.size + 2, 0, none⟩ = some (.int .i64 kd) ∧ w'.cell? ⟨w.heap.size + 2, 1, none⟩ = some (.int .i64 n) ∧ w'.cell? ⟨w.heap.size + 2, 2, none⟩ = some (.int .i64 k)) := fun w' hb => ⟨ext_cell hb p0, ext_cell hb p1, ext_cell hb q0, ext_cell hb q1, ext_cell hb q2, ext_cell hb q3, ext_cell hb r0, ext_cell hb r1, ext_cell hb r2⟩
  have CN : Hid (∀ w', Below (((w.alloc (.cells #[.int .i64 m, .slice la l.length lc] 24)).alloc (.cells #[.slice sa S.st.length sc, .slice ra S.rd.length rc, .slice wa S.wr.length tc, .slice va S.vs.length vc] 29)).alloc (.cells #[.int .i64 kd, .int .i64 n, .int .i64 k] 48)).heap.size (((w.alloc (.cells #[.int .i64 m, .slice la l.length lc] 24)).alloc (.cells #[.slice sa S.st.length sc, .slice ra S.rd.length rc, .slice wa S.wr.length tc, .slice va S.vs.length vc] 29)).alloc (.cells #[.int .i64 kd, .int .i64 n, .int .i64 k] 48)) w' → Calls Tryz.prog 24 #[.agg #[.int .i64 m, .slice la l.length lc], .agg #[.slice sa S.st.length sc, .slice ra S.rd.length rc, .slice wa S.wr.length tc, .slice va S.vs.length vc]] w' fun e w'' => ∃ a c, e = .returned (.tuple #[.slice a (canE m l S).length c, .int .i64 0]) ∧ IsSteps w'' a (canE m l S) ∧ Below w'.heap.size w' w'') := fun w' hb => by
    have h := stepsCan_any la lc l sa ra wa va sc rc tc vc S m w' ((hl.below hg).below hb) ((hs.below hg).below hb)
    rw [hE] at h
    exact h
  have CO : Hid (∀ w', Below (((w.alloc (.cells #[.int .i64 m, .slice la l.length lc] 24)).alloc (.cells #[.slice sa S.st.length sc, .slice ra S.rd.length rc, .slice wa S.wr.length tc, .slice va S.vs.length vc] 29)).alloc (.cells #[.int .i64 kd, .int .i64 n, .int .i64 k] 48)).heap.size (((w.alloc (.cells #[.int .i64 m, .slice la l.length lc] 24)).alloc (.cells #[.slice sa S.st.length sc, .slice ra S.rd.length rc, .slice wa S.wr.length tc, .slice va S.vs.length vc] 29)).alloc (.cells #[.int .i64 kd, .int .i64 n, .int .i64 k] 48)) w' → Calls Tryz.prog 15 #[.agg #[.int .i64 m, .slice la l.length lc], .agg #[.slice sa S.st.length sc, .slice ra S.rd.length rc, .slice wa S.wr.length tc, .slice va S.vs.length vc]] w' fun e w'' => e = .returned (.tuple #[.bool (decide ((canE m l S).length = 0)), .int .i64 0]) ∧ Below w'.heap.size w' w'') := fun w' hb => by
    have h := stepsOver_any la lc l sa ra wa va sc rc tc vc S m w' ((hl.below hg).below hb) ((hs.below hg).below hb)
    rw [hE, can_over hE] at h
    exact h
  have CD : Hid (∀ w', Below (((w.alloc (.cells #[.int .i64 m, .slice la l.length lc] 24)).alloc (.cells #[.slice sa S.st.length sc, .slice ra S.rd.length rc, .slice wa S.wr.length tc, .slice va S.vs.length vc] 29)).alloc (.cells #[.int .i64 kd, .int .i64 n, .int .i64 k] 48)).heap.size (((w.alloc (.cells #[.int .i64 m, .slice la l.length lc] 24)).alloc (.cells #[.slice sa S.st.length sc, .slice ra S.rd.length rc, .slice wa S.wr.length tc, .slice va S.vs.length vc] 29)).alloc (.cells #[.int .i64 kd, .int .i64 n, .int .i64 k] 48)) w' → Calls Tryz.prog 26 #[.agg #[.int .i64 m, .slice la l.length lc], .agg #[.slice sa S.st.length sc, .slice ra S.rd.length rc, .slice wa S.wr.length tc, .slice va S.vs.length vc], .agg #[.int .i64 kd, .int .i64 n, .int .i64 k]] w' fun e w'' => ∃ q : Q4, e = .returned (.tuple #[.agg #[.slice q.sa q.sn q.sc, .slice q.ra q.rn q.rc, .slice q.wa q.wn q.tc, .slice q.va q.vn q.vc], .int .i64 (doE m l S kd n k)]) ∧ StaF w'.heap.size (doS m l S kd n k) q w'' ∧ Below w'.heap.size w' w'') := fun w' hb => stepsDo_any la lc l sa ra wa va sc rc tc vc S m kd n k w' ((hl.below hg).below hb) ((hs.below hg).below hb)
  have CK : Hid (∀ w' (q : Q4), Below (((w.alloc (.cells #[.int .i64 m, .slice la l.length lc] 24)).alloc (.cells #[.slice sa S.st.length sc, .slice ra S.rd.length rc, .slice wa S.wr.length tc, .slice va S.vs.length vc] 29)).alloc (.cells #[.int .i64 kd, .int .i64 n, .int .i64 k] 48)).heap.size (((w.alloc (.cells #[.int .i64 m, .slice la l.length lc] 24)).alloc (.cells #[.slice sa S.st.length sc, .slice ra S.rd.length rc, .slice wa S.wr.length tc, .slice va S.vs.length vc] 29)).alloc (.cells #[.int .i64 kd, .int .i64 n, .int .i64 k] 48)) w' → doE m l S kd n k = 0 → StaQ (doS m l S kd n k) q w' → Calls Tryz.prog 22 #[.agg #[.int .i64 m, .slice la l.length lc], .agg #[.slice q.sa q.sn q.sc, .slice q.ra q.rn q.rc, .slice q.wa q.wn q.tc, .slice q.va q.vn q.vc]] w' fun e w'' => e = .returned (.int .i64 0) ∧ Below w'.heap.size w' w'') := fun w' q hb h0 hq => by
    have h := check_q (m := m) (c := lc) ((hl.below hg).below hb) hq
    rw [do_st hE h0] at h
    exact h
  have HA : Hid ((canE m l S).any (fun x => (x.1 : Int) == kd && (x.2.1 : Int) == n && (x.2.2 : Int) == k) = decide (doE m l S kd n k = 0)) := by
    have e1 : doE m l S kd n k = stepE m.toNat l S kd n k := if_pos hE
    have e2 : canE m l S = canL m.toNat l S := if_pos hE
    show _ = _
    rw [e1, e2]
    exact can_any _ _ _ _ _ _
  have hL : (canE m l S).length ≤ 64 := by
    have e2 : canE m l S = canL m.toNat l S := if_pos hE
    obtain ⟨sh, rfl, _, h4, hc, _⟩ := stE_zero hE
    rw [e2]
    exact canL_len _ _ _ (chkL_len hc) (by simpa using h4)
  have HG : Hid (Below w.heap.size w (((w.alloc (.cells #[.int .i64 m, .slice la l.length lc] 24)).alloc (.cells #[.slice sa S.st.length sc, .slice ra S.rd.length rc, .slice wa S.wr.length tc, .slice va S.vs.length vc] 29)).alloc (.cells #[.int .i64 kd, .int .i64 n, .int .i64 k] 48))) := hg
  clear hl hs hg HB hE p0 p1 q0 q1 q2 q3 r0 r1 r2
  generalize doE m l S kd n k = E at *
  generalize doS m l S kd n k = S' at *
  generalize canE m l S = L at *
  have HO : Hid (((L.length : Int) == 0) = decide (L.length = 0)) := by
    show _ = _
    by_cases c : L.length = 0
    · simp [c]
    · simp [c]
  generalize decide (L.length = 0) = o at *
  go_enter Tryz.func6, Tryz.ntmps6
  go_upto_region 1 with fail
  generalize (((w.alloc (.cells #[.int .i64 m, .slice la l.length lc] 24)).alloc (.cells #[.slice sa S.st.length sc, .slice ra S.rd.length rc, .slice wa S.wr.length tc, .slice va S.vs.length vc] 29)).alloc (.cells #[.int .i64 kd, .int .i64 n, .int .i64 k] 48)) = W at *
  obtain ⟨p0, p1, q0, q1, q2, q3, r0, r1, r2⟩ := KEEP.out W (Below.refl _ _)
  go_wp2_with fail
  refine (CN.out _ (Below.refl _ _)).mono ?_
  rintro e w1 ⟨a, c, rfl, hst, hb1⟩
  have B1 : Hid (Below W.heap.size W w1) := hb1
  have ST1 : Hid (IsSteps w1 a L) := hst
  clear hb1 CN p0 p1 q0 q1 q2 q3 r0 r1 r2 hst
  obtain ⟨p0, p1, q0, q1, q2, q3, r0, r1, r2⟩ := KEEP.out w1 B1.out
  go_wp2_with fail
  refine (CO.out _ B1.out).mono ?_
  rintro e w2 ⟨rfl, hb2⟩
  have B2 : Hid (Below W.heap.size W w2) := grow_trans B1.out hb2
  have ST2 : Hid (IsSteps w2 a L) := ST1.out.below hb2
  clear hb2 CO p0 p1 q0 q1 q2 q3 r0 r1 r2 ST1 B1
  obtain ⟨p0, p1, q0, q1, q2, q3, r0, r1, r2⟩ := KEEP.out w2 B2.out
  go_wp2_with fail
  refine (CD.out _ B2.out).mono ?_
  rintro e w3 ⟨q, rfl, hq, hb3⟩
  have gA : Below w3.heap.size w3 (w3.alloc (.cells #[.slice q.sa q.sn q.sc, .slice q.ra q.rn q.rc, .slice q.wa q.wn q.tc, .slice q.va q.vn q.vc] 29)) := grow_alloc (Below.refl _ _) _
  have B3 : Hid (Below W.heap.size W (w3.alloc (.cells #[.slice q.sa q.sn q.sc, .slice q.ra q.rn q.rc, .slice q.wa q.wn q.tc, .slice q.va q.vn q.vc] 29))) := grow_trans B2.out (grow_trans hb3 gA)
  have ST3 : Hid (IsSteps (w3.alloc (.cells #[.slice q.sa q.sn q.sc, .slice q.ra q.rn q.rc, .slice q.wa q.wn q.tc, .slice q.va q.vn q.vc] 29)) a L) := ST2.out.below (grow_trans hb3 gA)
  have HQ3 : Hid (StaQ S' q (w3.alloc (.cells #[.slice q.sa q.sn q.sc, .slice q.ra q.rn q.rc, .slice q.wa q.wn q.tc, .slice q.va q.vn q.vc] 29))) := hq.sta.below gA
  have m0 : (w3.alloc (.cells #[.slice q.sa q.sn q.sc, .slice q.ra q.rn q.rc, .slice q.wa q.wn q.tc, .slice q.va q.vn q.vc] 29)).cell? ⟨w3.heap.size, 0, none⟩ = some (.slice q.sa q.sn q.sc) := at_new _ _ 29 _ 0 _ rfl rfl
  have m1 : (w3.alloc (.cells #[.slice q.sa q.sn q.sc, .slice q.ra q.rn q.rc, .slice q.wa q.wn q.tc, .slice q.va q.vn q.vc] 29)).cell? ⟨w3.heap.size, 1, none⟩ = some (.slice q.ra q.rn q.rc) := at_new _ _ 29 _ 1 _ rfl rfl
  have m2 : (w3.alloc (.cells #[.slice q.sa q.sn q.sc, .slice q.ra q.rn q.rc, .slice q.wa q.wn q.tc, .slice q.va q.vn q.vc] 29)).cell? ⟨w3.heap.size, 2, none⟩ = some (.slice q.wa q.wn q.tc) := at_new _ _ 29 _ 2 _ rfl rfl
  have m3 : (w3.alloc (.cells #[.slice q.sa q.sn q.sc, .slice q.ra q.rn q.rc, .slice q.wa q.wn q.tc, .slice q.va q.vn q.vc] 29)).cell? ⟨w3.heap.size, 3, none⟩ = some (.slice q.va q.vn q.vc) := at_new _ _ 29 _ 3 _ rfl rfl
  clear hb3 gA hq CD p0 p1 q0 q1 q2 q3 r0 r1 r2 ST2 B2
  go_upto_region 6 with fail
  generalize w3.alloc (.cells #[.slice q.sa q.sn q.sc, .slice q.ra q.rn q.rc, .slice q.wa q.wn q.tc, .slice q.va q.vn q.vc] 29) = V at *
  generalize w3.heap.size = b5 at *
  have MS : Hid (∀ w', Below V.heap.size V w' → w'.cell? ⟨b5, 0, none⟩ = some (.slice q.sa q.sn q.sc) ∧ w'.cell? ⟨b5, 1, none⟩ = some (.slice q.ra q.rn q.rc) ∧ w'.cell? ⟨b5, 2, none⟩ = some (.slice q.wa q.wn q.tc) ∧ w'.cell? ⟨b5, 3, none⟩ = some (.slice q.va q.vn q.vc)) := fun w' hb => ⟨ext_cell hb m0, ext_cell hb m1, ext_cell hb m2, ext_cell hb m3⟩
  clear m0 m1 m2 m3
  go_wp2
  go_loopw [13, 14] (fun f i wr => ∃ j : Nat, j ≤ L.length ∧ f = .bool ((L.take j).any (fun x => (x.1 : Int) == kd && (x.2.1 : Int) == n && (x.2.2 : Int) == k)) ∧ i = .int .i64 j ∧ Hid (Below V.heap.size V wr)) (fun _ i _ => L.length - (intOf i).toNat)
  case atStart => exact ⟨0, Nat.zero_le _, rfl, rfl, Below.refl _ _⟩
  case round =>
    obtain ⟨j, hj, rfl, rfl, hB⟩ := hrel
    by_cases hlt : j < L.length
    · have i1 : (j : Int) < (L.length : Int) := by omega
      obtain ⟨b, off, ea, _, s0, s1, s2⟩ := (ST3.out.below hB.out) j hlt
      subst ea
      obtain ⟨p0, p1, q0, q1, q2, q3, r0, r1, r2⟩ := KEEP.out wr (grow_trans B3.out hB.out)
      have HT : Hid ((L.take (j + 1)).any (fun x => (x.1 : Int) == kd && (x.2.1 : Int) == n && (x.2.2 : Int) == k) = ((L.take j).any (fun x => (x.1 : Int) == kd && (x.2.1 : Int) == n && (x.2.2 : Int) == k) || ((((L.getD j (0, 0, 0)).1 : Nat) : Int) == kd && (((L.getD j (0, 0, 0)).2.1 : Nat) : Int) == n && (((L.getD j (0, 0, 0)).2.2 : Nat) : Int) == k))) := any_takeS _ L (0, 0, 0) j hlt
      have HF0 : ∃ f', Hid ((L.take (j + 1)).any (fun x => (x.1 : Int) == kd && (x.2.1 : Int) == n && (x.2.2 : Int) == k) = f') := ⟨_, rfl⟩
      obtain ⟨f', HF⟩ := HF0
      have HT : Hid (f' = ((L.take j).any (fun x => (x.1 : Int) == kd && (x.2.1 : Int) == n && (x.2.2 : Int) == k) || ((((L.getD j (0, 0, 0)).1 : Nat) : Int) == kd && (((L.getD j (0, 0, 0)).2.1 : Nat) : Int) == n && (((L.getD j (0, 0, 0)).2.2 : Nat) : Int) == k))) := HF.out.symm.trans HT.out
      generalize (L.take j).any (fun x => (x.1 : Int) == kd && (x.2.1 : Int) == n && (x.2.2 : Int) == k) = f0 at *
      generalize ((L.getD j (0, 0, 0)).1 : Nat) = x1 at *
      generalize ((L.getD j (0, 0, 0)).2.1 : Nat) = x2 at *
      generalize ((L.getD j (0, 0, 0)).2.2 : Nat) = x3 at *
      clear MS HQ3 HBB CK HA KEEP
      go_upto_region 10 with fail
      cases f0
      · have HT' : Hid (f' = ((x1 : Int) == kd && (x2 : Int) == n && (x3 : Int) == k)) := by show _ = _; rw [HT.out, Bool.false_or]
        clear HT
        generalize hB0 : ((x1 : Int) == kd && (x2 : Int) == n && (x3 : Int) == k) = bb at HT'
        have FIN : ∀ N, Hid (Below V.heap.size V (wr.drewN N)) := fun N => drewN_grow hB.out N
        go_quiet (fail)
        go_wp2
        go_roundw
        case rel => exact ⟨j + 1, by omega, by rw [HF.out, HT'.out, ← hB0], by go_num, FIN _⟩
        case measure => simp [intOf]; omega
      · have HT' : Hid (f' = true) := by show _ = _; rw [HT.out, Bool.true_or]
        clear HT
        have FIN : ∀ N, Hid (Below V.heap.size V (wr.drewN N)) := fun N => drewN_grow hB.out N
        go_quiet (fail)
        go_wp2
        go_roundw
        case rel => exact ⟨j + 1, by omega, by rw [HF.out, HT'.out], by go_num, FIN _⟩
        case measure => simp [intOf]; omega
    · have hjj : j = L.length := by omega
      subst hjj
      have HA' : Hid ((L.take L.length).any (fun x => (x.1 : Int) == kd && (x.2.1 : Int) == n && (x.2.2 : Int) == k) = decide (E = 0)) := by
        show _ = _
        rw [List.take_length]; exact HA.out
      generalize (L.take L.length).any (fun x => (x.1 : Int) == kd && (x.2.1 : Int) == n && (x.2.2 : Int) == k) = f0 at *
      have hf0 := HA'.out
      subst hf0
      obtain ⟨p0, p1, q0, q1, q2, q3, r0, r1, r2⟩ := KEEP.out wr (grow_trans B3.out hB.out)
      obtain ⟨m0, m1, m2, m3⟩ := MS.out wr hB.out
      have i1 : ¬ (L.length : Int) < (L.length : Int) := by omega
      have Bw : Hid (Below w.heap.size w wr) := grow_trans HG.out (grow_trans B3.out hB.out)
      have HQ4 : Hid (StaQ S' q wr) := HQ3.out.below hB.out
      have Bw2 : Hid (Below W.heap.size W wr) := grow_trans B3.out hB.out
      have BV : Hid (Below V.heap.size V wr) := hB
      clear HQ3 HA HA' hB B3 ST3
      have d0 := HO.out
      by_cases hE0 : E = 0
      · subst hE0
        have C22 : Hid (∀ w', Below wr.heap.size wr w' → Calls Tryz.prog 22 #[.agg #[.int .i64 m, .slice la l.length lc], .agg #[.slice q.sa q.sn q.sc, .slice q.ra q.rn q.rc, .slice q.wa q.wn q.tc, .slice q.va q.vn q.vc]] w' fun e w'' => e = .returned (.int .i64 0) ∧ Below w'.heap.size w' w'') := fun w' hb => CK.out w' q (grow_trans Bw2.out hb) rfl (HQ4.out.below hb)
        clear CK
        go_wp2_with fail
        refine (HBB.out _).mono ?_
        rintro e w6 ⟨rfl, hb6⟩
        have B6 : Hid (Below wr.heap.size wr w6) := hb6
        clear p0 p1 q0 q1 q2 q3 r0 r1 r2 m0 m1 m2 m3 hb6
        obtain ⟨p0, p1, q0, q1, q2, q3, r0, r1, r2⟩ := KEEP.out w6 (grow_trans Bw2.out B6.out)
        have MS6 := fun i v (h : wr.cell? ⟨b5, i, none⟩ = some v) => ext_cell B6.out h
        obtain ⟨m0, m1, m2, m3⟩ := MS.out w6 (grow_trans BV.out B6.out)
        clear MS6
        go_wp2_with fail
        refine (C22.out _ B6.out).mono ?_
        rintro e w7 ⟨rfl, hb7⟩
        have B7 : Hid (Below w.heap.size w w7) := grow_trans Bw.out (grow_trans B6.out hb7)
        clear hb7 p0 p1 q0 q1 q2 q3 r0 r1 r2 m0 m1 m2 m3
        go_wp2
        go_ret
        exact ⟨rfl, B7.out⟩
      · have hne : (E != 0) = true := by simpa using hE0
        have hd : decide (E = 0) = false := decide_eq_false hE0
        have he : (E == 0) = false := by simpa using hE0
        go_wp2_with fail
        refine (HBB.out _).mono ?_
        rintro e w6 ⟨rfl, hb6⟩
        have B6 : Hid (Below w.heap.size w w6) := grow_trans Bw.out hb6
        clear hb6 p0 p1 q0 q1 q2 q3 r0 r1 r2 m0 m1 m2 m3
        go_wp2
        go_ret
        exact ⟨by simp, B6.out⟩
end Go.Proofs.YtebjkmknhpgemaaGreat

namespace Go.Proofs.YtebjkmknhpgemaaGreat
open Go.ChangeShapes Go.WideShapes Go.ChangeAt Go.RowKit Go.Deep


section
variable {H : Type} {enc : TypeId × Value → H} {w : World} {base : Nat} {held : Bool}
set_option maxRecDepth 100000 in
/-- A plan that came in, as the walks are told of it. -/
theorem open_p {b0 : Nat} {v : Value} {d : DataW H} {p : List MemPlace} (hv : Value.okWide Tryz.prog w .any b0 24 v) (h : DataW.Trod enc Tryz.prog w base (fun _ => true) held 24 v d p) :
    ∃ (m : Int) (la : Option Addr) (l : List TxA) (lc : Nat), v = .agg #[.int .i64 m, .slice la l.length lc] ∧ IsTxs w la l := by
  obtain ⟨c0, c1, y0, y1, m, rfl, _, _, h0, h1⟩ := Joins.open_agg2 Tryz.underlying24 (by kernel_rfl) (by kernel_rfl) hv h
  obtain ⟨k, rfl⟩ := int_of h0
  obtain ⟨la, l, lc, rfl, _, _, hl, _⟩ := open_txs h1
  exact ⟨k, la, l, lc, rfl, hl⟩
set_option maxRecDepth 100000 in
theorem open_n {b0 : Nat} {v : Value} {d : DataW H} {p : List MemPlace} (hv : Value.okWide Tryz.prog w .any b0 3 v) (h : DataW.Trod enc Tryz.prog w base (fun _ => true) held 3 v d p) :
    ∃ n : Int, v = .int .i64 n ∧ (Lit.int .i64 n).wf = true := by
  obtain ⟨n, rfl, _, _, hw⟩ := open_int Tryz.underlying3 hv h
  exact ⟨n, rfl, hw⟩
end
end Go.Proofs.YtebjkmknhpgemaaGreat

namespace Go.Proofs.YtebjkmknhpgemaaGreat
open Go.ChangeShapes Go.WideShapes Go.ChangeAt Go.RowKit Go.Deep

section
variable {H : Type} {enc : TypeId × Value → H} {w : World} {base : Nat} {held : Bool}

set_option maxRecDepth 100000 in
theorem open_bl {n : Nat} {v : Value} {y : DataW H × List MemPlace} (h : DataW.trod enc Tryz.prog w base (fun _ => true) held n 65 [v] = some y) : ∃ (a : Option Addr) (bs : List Bool) (cap : Nat), v = .slice a bs.length cap ∧ bs.length ≤ maxLen ∧ IsBools w a bs ∧ (a = none → cap = 0) := by
  have k4 : Tryz.prog.cellsOf 4 = 1 := by kernel_rfl
  rcases open_slice Tryz.underlying65 h with ⟨hcs, _⟩ | ⟨a, len, cap, m, n', D, Pl, hcs, _, hl, hm, hmm, _, hx⟩
  · simp at hcs
    exact ⟨none, [], 0, by simpa using hcs, by simp, fun i hi => absurd hi (by simp), fun _ => rfl⟩
  · simp at hcs
    have hlm : len ≤ m := by rw [hmm]; split <;> omega
    rw [k4] at hx
    obtain ⟨f, hf⟩ := choose_lt (α := Bool) (p := fun i x => w.cell? ((a.add (i * 1)).add 0) = some (.bool x)) (n := m) (fun i hi => by
      obtain ⟨cs', h1, h2⟩ := hx i hi
      obtain ⟨_, hlen, hc⟩ := World.cells?_some h1
      match cs', hlen with
      | [c0], _ =>
        obtain ⟨x, hx', _⟩ := DataW.trod_bool Tryz.underlying4 h2
        simp at hx'
        subst hx'
        exact ⟨x, hc 0 (by omega)⟩)
    obtain ⟨b, off, spot⟩ := a
    refine ⟨some ⟨b, off, spot⟩, (List.range len).map f, cap, by simpa using hcs, by simp; omega, fun i hi => ?_, fun h => by cases h⟩
    have hi' : i < len := by simpa using hi
    have hsp : spot = none := by
      have := World.cell?_spot (hf 0 (by omega))
      simpa [Addr.add] using this
    subst hsp
    have e0 := hf i (by omega)
    have e0 : w.cell? ⟨b, off + i, none⟩ = some (.bool (f i)) := by
      rw [add_add] at e0
      simpa using e0
    have eg : ((List.range len).map f).getD i false = f i := by simp [List.getD, hi']
    rw [eg]
    exact ⟨b, off, rfl, World.block_lt_of_cell? w _ e0, e0⟩

set_option maxRecDepth 100000 in
theorem open_bb {n : Nat} {v : Value} {y : DataW H × List MemPlace} (h : DataW.trod enc Tryz.prog w base (fun _ => true) held n 26 [v] = some y) : ∃ (a : Option Addr) (rows : List (List Bool)) (cap : Nat), v = .slice a rows.length cap ∧ IsBB w a rows ∧ (a = none → cap = 0) := by
  have k26 : Tryz.prog.cellsOf 65 = 1 := by kernel_rfl
  rcases open_slice Tryz.underlying26 h with ⟨hcs, _⟩ | ⟨a, len, cap, m, n', D, Pl, hcs, _, hl, hm, hmm, _, hx⟩
  · simp at hcs
    exact ⟨none, [], 0, by simpa using hcs, fun i hi => absurd hi (by simp), fun _ => rfl⟩
  · simp at hcs
    have hlm : len ≤ m := by rw [hmm]; split <;> omega
    rw [k26] at hx
    obtain ⟨f, hf⟩ := choose_lt (α := Option Addr × List Bool × Nat) (p := fun i x => w.cell? ((a.add (i * 1)).add 0) = some (.slice x.1 x.2.1.length x.2.2) ∧ IsBools w x.1 x.2.1 ∧ (x.1 = none → x.2.2 = 0)) (n := m) (fun i hi => by
      obtain ⟨cs', h1, h2⟩ := hx i hi
      obtain ⟨_, hlen, hc⟩ := World.cells?_some h1
      match cs', hlen with
      | [c0], _ =>
        obtain ⟨a', zs, c', rfl, _, hz, hn⟩ := open_bl h2
        exact ⟨(a', zs, c'), hc 0 (by omega), hz, hn⟩)
    obtain ⟨b, off, spot⟩ := a
    refine ⟨some ⟨b, off, spot⟩, (List.range len).map (fun i => (f i).2.1), cap, by simpa using hcs, fun i hi => ?_, fun h => by cases h⟩
    have hi' : i < len := by simpa using hi
    have hsp : spot = none := by
      have := World.cell?_spot (hf 0 (by omega)).1
      simpa [Addr.add] using this
    subst hsp
    obtain ⟨e0, e1, e2⟩ := hf i (by omega)
    have e0 : w.cell? ⟨b, off + i, none⟩ = some (.slice (f i).1 (f i).2.1.length (f i).2.2) := by
      rw [add_add] at e0
      simpa using e0
    have eg : ((List.range len).map (fun i => (f i).2.1)).getD i [] = (f i).2.1 := by simp [List.getD, hi']
    rw [eg]
    refine ⟨b, off, (f i).1, (f i).2.2, rfl, World.block_lt_of_cell? w _ e0, e0, ?_, e2⟩
    exact e1

set_option maxRecDepth 100000 in
theorem open_ii {n : Nat} {v : Value} {y : DataW H × List MemPlace} (h : DataW.trod enc Tryz.prog w base (fun _ => true) held n 27 [v] = some y) : ∃ (a : Option Addr) (rows : List (List Int)) (cap : Nat), v = .slice a rows.length cap ∧ IsII w a rows ∧ (a = none → cap = 0) := by
  have k26 : Tryz.prog.cellsOf 25 = 1 := by kernel_rfl
  rcases open_slice Tryz.underlying27 h with ⟨hcs, _⟩ | ⟨a, len, cap, m, n', D, Pl, hcs, _, hl, hm, hmm, _, hx⟩
  · simp at hcs
    exact ⟨none, [], 0, by simpa using hcs, fun i hi => absurd hi (by simp), fun _ => rfl⟩
  · simp at hcs
    have hlm : len ≤ m := by rw [hmm]; split <;> omega
    rw [k26] at hx
    obtain ⟨f, hf⟩ := choose_lt (α := Option Addr × List Int × Nat) (p := fun i x => w.cell? ((a.add (i * 1)).add 0) = some (.slice x.1 x.2.1.length x.2.2) ∧ IsInts w x.1 x.2.1 ∧ (x.1 = none → x.2.2 = 0)) (n := m) (fun i hi => by
      obtain ⟨cs', h1, h2⟩ := hx i hi
      obtain ⟨_, hlen, hc⟩ := World.cells?_some h1
      match cs', hlen with
      | [c0], _ =>
        obtain ⟨a', zs, c', rfl, _, hz, hn⟩ := open_rs h2
        exact ⟨(a', zs, c'), hc 0 (by omega), hz, hn⟩)
    obtain ⟨b, off, spot⟩ := a
    refine ⟨some ⟨b, off, spot⟩, (List.range len).map (fun i => (f i).2.1), cap, by simpa using hcs, fun i hi => ?_, fun h => by cases h⟩
    have hi' : i < len := by simpa using hi
    have hsp : spot = none := by
      have := World.cell?_spot (hf 0 (by omega)).1
      simpa [Addr.add] using this
    subst hsp
    obtain ⟨e0, e1, e2⟩ := hf i (by omega)
    have e0 : w.cell? ⟨b, off + i, none⟩ = some (.slice (f i).1 (f i).2.1.length (f i).2.2) := by
      rw [add_add] at e0
      simpa using e0
    have eg : ((List.range len).map (fun i => (f i).2.1)).getD i [] = (f i).2.1 := by simp [List.getD, hi']
    rw [eg]
    refine ⟨b, off, (f i).1, (f i).2.2, rfl, World.block_lt_of_cell? w _ e0, e0, ?_, e2⟩
    exact e1

set_option maxRecDepth 100000 in
/-- A state that came in, as the walks are told of it. -/
theorem open_st {b0 : Nat} {v : Value} {d : DataW H} {p : List MemPlace} (hv : Value.okWide Tryz.prog w .any b0 29 v) (h : DataW.Trod enc Tryz.prog w base (fun _ => true) held 29 v d p) :
    ∃ (sa ra wa va : Option Addr) (sc rc tc vc : Nat) (S : SA), v = .agg #[.slice sa S.st.length sc, .slice ra S.rd.length rc, .slice wa S.wr.length tc, .slice va S.vs.length vc] ∧ Sta w sa ra wa va S := by
  obtain ⟨c0, c1, c2, c3, y0, y1, y2, y3, m, rfl, _, _, h0, h1, h2, h3⟩ := Joins.open_agg4 Tryz.underlying29 (by kernel_rfl) (by kernel_rfl) hv h
  obtain ⟨sa, st, sc, rfl, _, is, _⟩ := open_rs h0
  obtain ⟨ra, rd, rc, rfl, ir, _⟩ := open_bb h1
  obtain ⟨wa, wr, tc, rfl, iw, _⟩ := open_bb h2
  obtain ⟨va, vs, vc, rfl, iv, _⟩ := open_ii h3
  exact ⟨sa, ra, wa, va, sc, rc, tc, vc, ⟨st, rd, wr, vs⟩, rfl, ⟨is, ir, iw, iv⟩⟩
set_option maxRecDepth 100000 in
theorem open_step {b0 : Nat} {v : Value} {d : DataW H} {p : List MemPlace} (hv : Value.okWide Tryz.prog w .any b0 48 v) (h : DataW.Trod enc Tryz.prog w base (fun _ => true) held 48 v d p) :
    ∃ kd n k : Int, v = .agg #[.int .i64 kd, .int .i64 n, .int .i64 k] := by
  obtain ⟨c0, c1, c2, y0, y1, y2, m, rfl, _, _, h0, h1, h2⟩ := Joins.open_agg3 Tryz.underlying48 (by kernel_rfl) (by kernel_rfl) hv h
  obtain ⟨kd, rfl⟩ := int_of h0
  obtain ⟨n, rfl⟩ := int_of h1
  obtain ⟨k, rfl⟩ := int_of h2
  exact ⟨kd, n, k, rfl⟩
end
end Go.Proofs.YtebjkmknhpgemaaGreat
