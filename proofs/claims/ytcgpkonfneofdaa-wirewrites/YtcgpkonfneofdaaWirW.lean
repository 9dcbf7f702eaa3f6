/-
  WireWrites, walked.
  Conditions: those that each theorem states.
-/
import Derived.Test.YtcgpkonfneofdaaWirMI
import Derived.WalkKit
import Derived.WalkSpells
import Derived.WalkLawsBesides
import Derived.Defers
import Derived.Recover
import Derived.ProofKit
import Derived.Deep.RegionHeld
import Derived.Deep.RegionHeld3
import Derived.Deep.RegionLaw
import Derived.Deep.DeepCutAuto
import Derived.Deep.QuietTactic
import Derived.BigQuiet
import Derived.Maps.AppendAt
import Derived.Lib.SliceRun
import Derived.Deep.AppendLies
namespace Go.Proofs.Ytcgpkonfneofdaa
open Go.RowKit

variable (la : Option Addr) (lc : Nat) (l : List TxA) (m : Int) (b : ByteArray)
set_option maxRecDepth 100000 in
set_option maxHeartbeats 2000000 in
theorem ww_0many (w : World) (hl : IsTxs w la l) (hE : planE m l = 0) (h4 : 4096 < b.size) :
    Calls Try.prog 5 #[.agg #[.int .i64 m, .slice la l.length lc], .string b] w fun e w' => e = .returned (.bool true) ∧ Below w.heap.size w w' := by
  obtain ⟨W, hWe⟩ : ∃ W, W = w.alloc (.cells #[.int .i64 m, .slice la l.length lc] 50) := ⟨_, rfl⟩
  have HWE : Hid (W = w.alloc (.cells #[.int .i64 m, .slice la l.length lc] 50)) := hWe
  have p0 : W.cell? ⟨w.heap.size, 0, none⟩ = some (.int .i64 m) := by subst hWe; simp
  have p1 : W.cell? ⟨w.heap.size, 1, none⟩ = some (.slice la l.length lc) := by subst hWe; simp
  have BW : Hid (Below w.heap.size w W) := by subst hWe; exact grow_alloc (Below.refl _ _) _
  have HL : Hid (IsTxs W la l) := hl.below BW.out
  clear hl hWe
  have CW := wireWrite_any la lc l m W HL.out
  have CC : Hid (∀ w', Below W.heap.size W w' → Calls Try.prog 17 #[.agg #[.int .i64 m, .slice la l.length lc]] w' fun e w'' => e = .returned (.int .i64 (planE m l)) ∧ Below w'.heap.size w' w'') := fun w' hb => checkPlan_any la lc l m w' (HL.out.below hb)
  have hw : wrL m l = plB m l := if_pos hE
  rw [hE, hw] at CW
  rw [hE] at CC
  have CB : Hid (∀ w', Below W.heap.size W w' → Calls Try.prog 18 #[.agg #[.int .i64 m, .slice la l.length lc]] w' fun e w'' => ∃ S, e = .returned (.string S) ∧ lst S = plB m l ∧ Below w'.heap.size w' w'') := fun w' hb => docBytes_any la lc l m w' (HL.out.below hb) hE
  have HCW := hid CW
  clear CW hw hE HL
  generalize plB m l = PB at *
  have hi4 : (4096 : Int) < (b.size : Int) := by omega
  have RO : Hid (∀ e w', RdOut (lst b) e w' → e = .returned (.tuple #[.agg #[.int .i64 0, .slice none 0 0], .int .i64 2])) := fun e w' h => by
    unfold RdOut at h
    have e1 : rdRes (lst b) = none := by unfold rdRes; rw [lst_len, if_pos h4]
    have e2 : rdE (lst b) = 2 := by unfold rdE; rw [lst_len, if_pos h4]
    rw [e1, e2] at h
    exact h
  clear h4
  go_enter Try.func5, Try.ntmps5
  go_upto_region 1 with fail
  rw [← HWE.out]
  clear HWE
  go_wp2_with fail
  refine HCW.out.mono ?_
  rintro e w1 ⟨S, rfl, hS, hb⟩
  have B1 : Hid (Below W.heap.size W w1) := hb
  have HS := hid hS
  have p0 := ext_cell hb p0
  have p1 := ext_cell hb p1
  clear hb hS HCW
  go_wp2_with fail
  refine (CC.out _ B1.out).mono ?_
  rintro e w2 ⟨rfl, hb⟩
  have B2 : Hid (Below W.heap.size W w2) := grow_trans B1.out hb
  have p0 := ext_cell hb p0
  have p1 := ext_cell hb p1
  clear hb CC B1
  go_wp2_with fail
  refine (CB.out _ B2.out).mono ?_
  rintro e w3 ⟨S2, rfl, hS2, hb⟩
  have hSe : S2 = S := lst_eq (hS2.trans HS.out.symm)
  subst hSe
  have B2 : Hid (Below W.heap.size W w3) := grow_trans B2.out hb
  clear hb CB hS2 HS
  go_wp2_with fail
  refine (wireRead_any b _).mono ?_
  rintro e w4 ⟨hb, ho⟩
  have ho := RO.out e w4 ho
  subst ho
  have B4 : Hid (Below W.heap.size W w4) := grow_trans B2.out hb
  clear hb B2 RO
  obtain ⟨V, hV⟩ : ∃ V, V = w4.alloc (.cells #[.int .i64 0, .slice none 0 0] 50) := ⟨_, rfl⟩
  have HV : Hid (V = w4.alloc (.cells #[.int .i64 0, .slice none 0 0] 50)) := hV
  have q0 : V.cell? ⟨w4.heap.size, 0, none⟩ = some (.int .i64 0) := by subst hV; simp
  have q1 : V.cell? ⟨w4.heap.size, 1, none⟩ = some (.slice none 0 0) := by subst hV; simp
  have BV : Hid (Below W.heap.size W V) := by subst hV; exact grow_alloc B4.out _
  clear hV B4
  go_upto_region 7 with fail
  rw [← HV.out]
  clear HV
  generalize w4.heap.size = Y at *
  go_wp2_with fail
  refine (wireBegun_any _).mono ?_
  rintro e w5 ⟨rfl, hb⟩
  have q0 := ext_cell hb q0
  have q1 := ext_cell hb q1
  have BF : Hid (Below w.heap.size w w5) := grow_trans BW.out (grow_trans BV.out hb)
  clear hb BV
  go_wp2
  go_ret
  exact ⟨rfl, BF.out⟩
set_option maxRecDepth 100000 in
set_option maxHeartbeats 2000000 in
theorem ww_0none (w : World) (hl : IsTxs w la l) (hE : planE m l = 0) (h4 : ¬ 4096 < b.size) (hr : rdOk (lst b) = none) :
    Calls Try.prog 5 #[.agg #[.int .i64 m, .slice la l.length lc], .string b] w fun e w' => e = .returned (.bool true) ∧ Below w.heap.size w w' := by
  obtain ⟨W, hWe⟩ : ∃ W, W = w.alloc (.cells #[.int .i64 m, .slice la l.length lc] 50) := ⟨_, rfl⟩
  have HWE : Hid (W = w.alloc (.cells #[.int .i64 m, .slice la l.length lc] 50)) := hWe
  have p0 : W.cell? ⟨w.heap.size, 0, none⟩ = some (.int .i64 m) := by subst hWe; simp
  have p1 : W.cell? ⟨w.heap.size, 1, none⟩ = some (.slice la l.length lc) := by subst hWe; simp
  have BW : Hid (Below w.heap.size w W) := by subst hWe; exact grow_alloc (Below.refl _ _) _
  have HL : Hid (IsTxs W la l) := hl.below BW.out
  clear hl hWe
  have CW := wireWrite_any la lc l m W HL.out
  have CC : Hid (∀ w', Below W.heap.size W w' → Calls Try.prog 17 #[.agg #[.int .i64 m, .slice la l.length lc]] w' fun e w'' => e = .returned (.int .i64 (planE m l)) ∧ Below w'.heap.size w' w'') := fun w' hb => checkPlan_any la lc l m w' (HL.out.below hb)
  have hw : wrL m l = plB m l := if_pos hE
  rw [hE, hw] at CW
  rw [hE] at CC
  have CB : Hid (∀ w', Below W.heap.size W w' → Calls Try.prog 18 #[.agg #[.int .i64 m, .slice la l.length lc]] w' fun e w'' => ∃ S, e = .returned (.string S) ∧ lst S = plB m l ∧ Below w'.heap.size w' w'') := fun w' hb => docBytes_any la lc l m w' (HL.out.below hb) hE
  have HCW := hid CW
  clear CW hw hE HL
  generalize plB m l = PB at *
  have hi4 : ¬ (4096 : Int) < (b.size : Int) := by omega
  have RO : Hid (∀ e w', RdOut (lst b) e w' → e = .returned (.tuple #[.agg #[.int .i64 0, .slice none 0 0], .int .i64 1])) := fun e w' h => by
    unfold RdOut at h
    have e1 : rdRes (lst b) = none := by unfold rdRes; rw [lst_len, if_neg h4]; exact hr
    have e2 : rdE (lst b) = 1 := by unfold rdE; rw [lst_len, if_neg h4, hr]; rfl
    rw [e1, e2] at h
    exact h
  have FO : Hid (∀ e w', FromOut (lst b) e w' → e = .returned (.tuple #[.agg #[.int .i64 0, .slice none 0 0], .bool false])) := fun e w' h => by
    unfold FromOut at h
    rw [doc_same (lst_byt b), hr] at h
    exact h
  clear h4 hr
  go_enter Try.func5, Try.ntmps5
  go_upto_region 1 with fail
  rw [← HWE.out]
  clear HWE
  go_wp2_with fail
  refine HCW.out.mono ?_
  rintro e w1 ⟨S, rfl, hS, hb⟩
  have B1 : Hid (Below W.heap.size W w1) := hb
  have HS := hid hS
  have p0 := ext_cell hb p0
  have p1 := ext_cell hb p1
  clear hb hS HCW
  go_wp2_with fail
  refine (CC.out _ B1.out).mono ?_
  rintro e w2 ⟨rfl, hb⟩
  have B2 : Hid (Below W.heap.size W w2) := grow_trans B1.out hb
  have p0 := ext_cell hb p0
  have p1 := ext_cell hb p1
  clear hb CC B1
  go_wp2_with fail
  refine (CB.out _ B2.out).mono ?_
  rintro e w3 ⟨S2, rfl, hS2, hb⟩
  have hSe : S2 = S := lst_eq (hS2.trans HS.out.symm)
  subst hSe
  have B2 : Hid (Below W.heap.size W w3) := grow_trans B2.out hb
  clear hb CB hS2 HS
  go_wp2_with fail
  refine (wireRead_any b _).mono ?_
  rintro e w4 ⟨hb, ho⟩
  have ho := RO.out e w4 ho
  subst ho
  have B4 : Hid (Below W.heap.size W w4) := grow_trans B2.out hb
  clear hb B2 RO
  obtain ⟨V, hV⟩ : ∃ V, V = w4.alloc (.cells #[.int .i64 0, .slice none 0 0] 50) := ⟨_, rfl⟩
  have HV : Hid (V = w4.alloc (.cells #[.int .i64 0, .slice none 0 0] 50)) := hV
  have q0 : V.cell? ⟨w4.heap.size, 0, none⟩ = some (.int .i64 0) := by subst hV; simp
  have q1 : V.cell? ⟨w4.heap.size, 1, none⟩ = some (.slice none 0 0) := by subst hV; simp
  have BV : Hid (Below W.heap.size W V) := by subst hV; exact grow_alloc B4.out _
  clear hV B4
  go_upto_region 7 with fail
  rw [← HV.out]
  clear HV
  generalize w4.heap.size = Y at *
  go_wp2_with fail
  refine (docFrom_any b _).mono ?_
  rintro e w5 ⟨hb, ho⟩
  have ho := FO.out e w5 ho
  subst ho
  have q0 := ext_cell hb q0
  have q1 := ext_cell hb q1
  have B5 : Hid (Below W.heap.size W w5) := grow_trans BV.out hb
  clear hb BV FO
  obtain ⟨U, hU⟩ : ∃ V, V = w5.alloc (.cells #[.int .i64 0, .slice none 0 0] 50) := ⟨_, rfl⟩
  have HU : Hid (U = w5.alloc (.cells #[.int .i64 0, .slice none 0 0] 50)) := hU
  have s0 : U.cell? ⟨w5.heap.size, 0, none⟩ = some (.int .i64 0) := by subst hU; simp
  have s1 : U.cell? ⟨w5.heap.size, 1, none⟩ = some (.slice none 0 0) := by subst hU; simp
  have CS : Hid (∀ w', Below U.heap.size U w' → Calls Try.prog 22 #[.slice none 0 0, .slice none 0 0] w' fun e w'' => e = .returned (.bool true) ∧ Below w'.heap.size w' w'') := fun w' _ => sameTxns_eq [] [] none none 0 0 w' rfl (by simp) (fun x hx => by cases hx) (fun i hi => absurd hi (by simp)) (fun i hi => absurd hi (by simp))
  have BU : Hid (Below W.heap.size W U) := by subst hU; exact grow_alloc B5.out _
  have q0 : U.cell? ⟨Y, 0, none⟩ = some (.int .i64 0) := by subst hU; exact ext_cell (grow_alloc (Below.refl _ _) _) q0
  have q1 : U.cell? ⟨Y, 1, none⟩ = some (.slice none 0 0) := by subst hU; exact ext_cell (grow_alloc (Below.refl _ _) _) q1
  clear hU B5
  go_upto_region 10 with fail
  rw [← HU.out]
  clear HU
  generalize w5.heap.size = Z at *
  go_wp2_with fail
  refine (wireBegun_any _).mono ?_
  rintro e w6 ⟨rfl, hb⟩
  have q0 := ext_cell hb q0
  have q1 := ext_cell hb q1
  have s0 := ext_cell hb s0
  have s1 := ext_cell hb s1
  have B6 := hid hb
  clear hb
  go_wp2_with fail
  refine (CS.out _ B6.out).mono ?_
  rintro e w7 ⟨rfl, hb⟩
  have BF : Hid (Below w.heap.size w w7) := grow_trans BW.out (grow_trans BU.out (grow_trans B6.out hb))
  clear hb BU B6 CS
  go_wp2_with fail
  go_ret
  exact ⟨rfl, BF.out⟩
set_option maxRecDepth 100000 in
set_option maxHeartbeats 2000000 in
theorem ww_0some (w : World) (hl : IsTxs w la l) (hE : planE m l = 0) (h4 : ¬ 4096 < b.size) (p : Int × List Core) (hr : rdOk (lst b) = some p) :
    Calls Try.prog 5 #[.agg #[.int .i64 m, .slice la l.length lc], .string b] w fun e w' => e = .returned (.bool true) ∧ Below w.heap.size w w' := by
  obtain ⟨W, hWe⟩ : ∃ W, W = w.alloc (.cells #[.int .i64 m, .slice la l.length lc] 50) := ⟨_, rfl⟩
  have HWE : Hid (W = w.alloc (.cells #[.int .i64 m, .slice la l.length lc] 50)) := hWe
  have p0 : W.cell? ⟨w.heap.size, 0, none⟩ = some (.int .i64 m) := by subst hWe; simp
  have p1 : W.cell? ⟨w.heap.size, 1, none⟩ = some (.slice la l.length lc) := by subst hWe; simp
  have BW : Hid (Below w.heap.size w W) := by subst hWe; exact grow_alloc (Below.refl _ _) _
  have HL : Hid (IsTxs W la l) := hl.below BW.out
  clear hl hWe
  have CW := wireWrite_any la lc l m W HL.out
  have CC : Hid (∀ w', Below W.heap.size W w' → Calls Try.prog 17 #[.agg #[.int .i64 m, .slice la l.length lc]] w' fun e w'' => e = .returned (.int .i64 (planE m l)) ∧ Below w'.heap.size w' w'') := fun w' hb => checkPlan_any la lc l m w' (HL.out.below hb)
  have hw : wrL m l = plB m l := if_pos hE
  rw [hE, hw] at CW
  rw [hE] at CC
  have CB : Hid (∀ w', Below W.heap.size W w' → Calls Try.prog 18 #[.agg #[.int .i64 m, .slice la l.length lc]] w' fun e w'' => ∃ S, e = .returned (.string S) ∧ lst S = plB m l ∧ Below w'.heap.size w' w'') := fun w' hb => docBytes_any la lc l m w' (HL.out.below hb) hE
  have HCW := hid CW
  clear CW hw hE HL
  generalize plB m l = PB at *
  have hi4 : ¬ (4096 : Int) < (b.size : Int) := by omega
  have RO : Hid (∀ e w', RdOut (lst b) e w' → ∃ (a : Option Addr) (cl : List TxA) (c : Nat), e = .returned (.tuple #[.agg #[.int .i64 p.1, .slice a cl.length c], .int .i64 0]) ∧ IsTxs w' a cl ∧ cl.map TxA.core = p.2) := fun e w' h => by
    unfold RdOut at h
    have e1 : rdRes (lst b) = some p := by unfold rdRes; rw [lst_len, if_neg h4]; exact hr
    rw [e1] at h
    exact h
  have FO : Hid (∀ e w', FromOut (lst b) e w' → ∃ (a : Option Addr) (cl : List TxA) (c : Nat), e = .returned (.tuple #[.agg #[.int .i64 p.1, .slice a cl.length c], .bool true]) ∧ IsTxs w' a cl ∧ cl.map TxA.core = p.2) := fun e w' h => by
    unfold FromOut at h
    rw [doc_same (lst_byt b), hr] at h
    exact h
  have SM : Hid (∀ cl : List TxA, cl.map TxA.core = p.2 → cl.length ≤ 8 ∧ ∀ x ∈ cl, x.rs.length ≤ 100 ∧ x.gs.length ≤ 100 ∧ x.ss.length ≤ 100) := fun cl h => small_core h (bytes_of_rd (lst_byt b) hr).2
  clear h4 hr
  obtain ⟨p1', p2'⟩ := p
  simp only at RO FO SM
  go_enter Try.func5, Try.ntmps5
  go_upto_region 1 with fail
  rw [← HWE.out]
  clear HWE
  go_wp2_with fail
  refine HCW.out.mono ?_
  rintro e w1 ⟨S, rfl, hS, hb⟩
  have B1 : Hid (Below W.heap.size W w1) := hb
  have HS := hid hS
  have p0 := ext_cell hb p0
  have p1 := ext_cell hb p1
  clear hb hS HCW
  go_wp2_with fail
  refine (CC.out _ B1.out).mono ?_
  rintro e w2 ⟨rfl, hb⟩
  have B2 : Hid (Below W.heap.size W w2) := grow_trans B1.out hb
  have p0 := ext_cell hb p0
  have p1 := ext_cell hb p1
  clear hb CC B1
  go_wp2_with fail
  refine (CB.out _ B2.out).mono ?_
  rintro e w3 ⟨S2, rfl, hS2, hb⟩
  have hSe : S2 = S := lst_eq (hS2.trans HS.out.symm)
  subst hSe
  have B2 : Hid (Below W.heap.size W w3) := grow_trans B2.out hb
  clear hb CB hS2 HS
  go_wp2_with fail
  refine (wireRead_any b _).mono ?_
  rintro e w4 ⟨hb, ho⟩
  obtain ⟨a1, cl, c1, rfl, htx, hcl⟩ := RO.out e w4 ho
  have B4 : Hid (Below W.heap.size W w4) := grow_trans B2.out hb
  have HCL := hid hcl
  clear hb B2 RO ho
  obtain ⟨V, hV⟩ : ∃ V, V = w4.alloc (.cells #[.int .i64 p1', .slice a1 cl.length c1] 50) := ⟨_, rfl⟩
  have HV : Hid (V = w4.alloc (.cells #[.int .i64 p1', .slice a1 cl.length c1] 50)) := hV
  have q0 : V.cell? ⟨w4.heap.size, 0, none⟩ = some (.int .i64 p1') := by subst hV; simp
  have q1 : V.cell? ⟨w4.heap.size, 1, none⟩ = some (.slice a1 cl.length c1) := by subst hV; simp
  have HTX : Hid (IsTxs V a1 cl) := by subst hV; exact htx.below (grow_alloc (Below.refl _ _) _)
  clear htx hcl
  have BV : Hid (Below W.heap.size W V) := by subst hV; exact grow_alloc B4.out _
  clear hV B4
  go_upto_region 7 with fail
  rw [← HV.out]
  clear HV
  generalize w4.heap.size = Y at *
  go_wp2_with fail
  refine (docFrom_any b _).mono ?_
  rintro e w5 ⟨hb, ho⟩
  obtain ⟨a2, cm, c2, rfl, htx2, hcm⟩ := FO.out e w5 ho
  have q0 := ext_cell hb q0
  have q1 := ext_cell hb q1
  have B5 : Hid (Below W.heap.size W w5) := grow_trans BV.out hb
  have HTX := hid (HTX.out.below hb)
  have HCM := hid hcm
  clear hb BV FO ho
  obtain ⟨U, hU⟩ : ∃ V, V = w5.alloc (.cells #[.int .i64 p1', .slice a2 cm.length c2] 50) := ⟨_, rfl⟩
  have HU : Hid (U = w5.alloc (.cells #[.int .i64 p1', .slice a2 cm.length c2] 50)) := hU
  have s0 : U.cell? ⟨w5.heap.size, 0, none⟩ = some (.int .i64 p1') := by subst hU; simp
  have s1 : U.cell? ⟨w5.heap.size, 1, none⟩ = some (.slice a2 cm.length c2) := by subst hU; simp
  have HTXU : Hid (IsTxs U a1 cl) := by subst hU; exact HTX.out.below (grow_alloc (Below.refl _ _) _)
  have HTX2 : Hid (IsTxs U a2 cm) := by subst hU; exact htx2.below (grow_alloc (Below.refl _ _) _)
  have CS : Hid (∀ w', Below U.heap.size U w' → Calls Try.prog 22 #[.slice a1 cl.length c1, .slice a2 cm.length c2] w' fun e w'' => e = .returned (.bool true) ∧ Below w'.heap.size w' w'') := fun w' hb => sameTxns_eq cl cm a1 a2 c1 c2 w' (HCL.out.trans HCM.out.symm) (by have := (SM.out cl HCL.out).1; omega) (SM.out cl HCL.out).2 (HTXU.out.below hb) (HTX2.out.below hb)
  clear htx2 hcm HTX HTXU HTX2 HCL HCM SM
  have BU : Hid (Below W.heap.size W U) := by subst hU; exact grow_alloc B5.out _
  have q0 : U.cell? ⟨Y, 0, none⟩ = some (.int .i64 p1') := by subst hU; exact ext_cell (grow_alloc (Below.refl _ _) _) q0
  have q1 : U.cell? ⟨Y, 1, none⟩ = some (.slice a1 cl.length c1) := by subst hU; exact ext_cell (grow_alloc (Below.refl _ _) _) q1
  clear hU B5
  go_upto_region 10 with fail
  rw [← HU.out]
  clear HU
  generalize w5.heap.size = Z at *
  go_wp2_with fail
  refine (wireBegun_any _).mono ?_
  rintro e w6 ⟨rfl, hb⟩
  have q0 := ext_cell hb q0
  have q1 := ext_cell hb q1
  have s0 := ext_cell hb s0
  have s1 := ext_cell hb s1
  have B6 := hid hb
  clear hb
  go_wp2_with fail
  refine (CS.out _ B6.out).mono ?_
  rintro e w7 ⟨rfl, hb⟩
  have BF : Hid (Below w.heap.size w w7) := grow_trans BW.out (grow_trans BU.out (grow_trans B6.out hb))
  clear hb BU B6 CS
  go_wp2_with fail
  go_ret
  exact ⟨rfl, BF.out⟩
set_option maxRecDepth 100000 in
set_option maxHeartbeats 2000000 in
theorem ww_1many (w : World) (hl : IsTxs w la l) (hE : ¬ planE m l = 0) (h4 : 4096 < b.size) :
    Calls Try.prog 5 #[.agg #[.int .i64 m, .slice la l.length lc], .string b] w fun e w' => e = .returned (.bool true) ∧ Below w.heap.size w w' := by
  obtain ⟨W, hWe⟩ : ∃ W, W = w.alloc (.cells #[.int .i64 m, .slice la l.length lc] 50) := ⟨_, rfl⟩
  have HWE : Hid (W = w.alloc (.cells #[.int .i64 m, .slice la l.length lc] 50)) := hWe
  have p0 : W.cell? ⟨w.heap.size, 0, none⟩ = some (.int .i64 m) := by subst hWe; simp
  have p1 : W.cell? ⟨w.heap.size, 1, none⟩ = some (.slice la l.length lc) := by subst hWe; simp
  have BW : Hid (Below w.heap.size w W) := by subst hWe; exact grow_alloc (Below.refl _ _) _
  have HL : Hid (IsTxs W la l) := hl.below BW.out
  clear hl hWe
  have CW := wireWrite_any la lc l m W HL.out
  have CC : Hid (∀ w', Below W.heap.size W w' → Calls Try.prog 17 #[.agg #[.int .i64 m, .slice la l.length lc]] w' fun e w'' => e = .returned (.int .i64 (planE m l)) ∧ Below w'.heap.size w' w'') := fun w' hb => checkPlan_any la lc l m w' (HL.out.below hb)
  have hw : wrL m l = [] := if_neg hE
  rw [hw] at CW
  have hE2 : (planE m l == 0) = false := by simpa using hE
  have hE3 : ¬ planE m l = 0 := hE
  have HCW := hid CW
  clear CW hw hE HL
  generalize planE m l = EE at *
  have hi4 : (4096 : Int) < (b.size : Int) := by omega
  have RO : Hid (∀ e w', RdOut (lst b) e w' → e = .returned (.tuple #[.agg #[.int .i64 0, .slice none 0 0], .int .i64 2])) := fun e w' h => by
    unfold RdOut at h
    have e1 : rdRes (lst b) = none := by unfold rdRes; rw [lst_len, if_pos h4]
    have e2 : rdE (lst b) = 2 := by unfold rdE; rw [lst_len, if_pos h4]
    rw [e1, e2] at h
    exact h
  clear h4
  go_enter Try.func5, Try.ntmps5
  go_upto_region 1 with fail
  rw [← HWE.out]
  clear HWE
  go_wp2_with fail
  refine HCW.out.mono ?_
  rintro e w1 ⟨S, rfl, hS, hb⟩
  have B1 : Hid (Below W.heap.size W w1) := hb
  have HS := hid hS
  have p0 := ext_cell hb p0
  have p1 := ext_cell hb p1
  clear hb hS HCW
  have hSe : S = { data := #[] } := lst_eq HS.out
  subst hSe
  go_wp2_with fail
  refine (CC.out _ B1.out).mono ?_
  rintro e w2 ⟨rfl, hb⟩
  have B2 : Hid (Below W.heap.size W w2) := grow_trans B1.out hb
  have p0 := ext_cell hb p0
  have p1 := ext_cell hb p1
  clear hb CC B1
  go_wp2_with fail
  refine (wireRead_any b _).mono ?_
  rintro e w4 ⟨hb, ho⟩
  have ho := RO.out e w4 ho
  subst ho
  have B4 : Hid (Below W.heap.size W w4) := grow_trans B2.out hb
  clear hb B2 RO
  obtain ⟨V, hV⟩ : ∃ V, V = w4.alloc (.cells #[.int .i64 0, .slice none 0 0] 50) := ⟨_, rfl⟩
  have HV : Hid (V = w4.alloc (.cells #[.int .i64 0, .slice none 0 0] 50)) := hV
  have q0 : V.cell? ⟨w4.heap.size, 0, none⟩ = some (.int .i64 0) := by subst hV; simp
  have q1 : V.cell? ⟨w4.heap.size, 1, none⟩ = some (.slice none 0 0) := by subst hV; simp
  have BV : Hid (Below W.heap.size W V) := by subst hV; exact grow_alloc B4.out _
  clear hV B4
  go_upto_region 7 with fail
  rw [← HV.out]
  clear HV
  generalize w4.heap.size = Y at *
  go_wp2_with fail
  refine (wireBegun_any _).mono ?_
  rintro e w5 ⟨rfl, hb⟩
  have q0 := ext_cell hb q0
  have q1 := ext_cell hb q1
  have BF : Hid (Below w.heap.size w w5) := grow_trans BW.out (grow_trans BV.out hb)
  clear hb BV
  go_wp2
  go_ret
  exact ⟨rfl, BF.out⟩
set_option maxRecDepth 100000 in
set_option maxHeartbeats 2000000 in
theorem ww_1none (w : World) (hl : IsTxs w la l) (hE : ¬ planE m l = 0) (h4 : ¬ 4096 < b.size) (hr : rdOk (lst b) = none) :
    Calls Try.prog 5 #[.agg #[.int .i64 m, .slice la l.length lc], .string b] w fun e w' => e = .returned (.bool true) ∧ Below w.heap.size w w' := by
  obtain ⟨W, hWe⟩ : ∃ W, W = w.alloc (.cells #[.int .i64 m, .slice la l.length lc] 50) := ⟨_, rfl⟩
  have HWE : Hid (W = w.alloc (.cells #[.int .i64 m, .slice la l.length lc] 50)) := hWe
  have p0 : W.cell? ⟨w.heap.size, 0, none⟩ = some (.int .i64 m) := by subst hWe; simp
  have p1 : W.cell? ⟨w.heap.size, 1, none⟩ = some (.slice la l.length lc) := by subst hWe; simp
  have BW : Hid (Below w.heap.size w W) := by subst hWe; exact grow_alloc (Below.refl _ _) _
  have HL : Hid (IsTxs W la l) := hl.below BW.out
  clear hl hWe
  have CW := wireWrite_any la lc l m W HL.out
  have CC : Hid (∀ w', Below W.heap.size W w' → Calls Try.prog 17 #[.agg #[.int .i64 m, .slice la l.length lc]] w' fun e w'' => e = .returned (.int .i64 (planE m l)) ∧ Below w'.heap.size w' w'') := fun w' hb => checkPlan_any la lc l m w' (HL.out.below hb)
  have hw : wrL m l = [] := if_neg hE
  rw [hw] at CW
  have hE2 : (planE m l == 0) = false := by simpa using hE
  have hE3 : ¬ planE m l = 0 := hE
  have HCW := hid CW
  clear CW hw hE HL
  generalize planE m l = EE at *
  have hi4 : ¬ (4096 : Int) < (b.size : Int) := by omega
  have RO : Hid (∀ e w', RdOut (lst b) e w' → e = .returned (.tuple #[.agg #[.int .i64 0, .slice none 0 0], .int .i64 1])) := fun e w' h => by
    unfold RdOut at h
    have e1 : rdRes (lst b) = none := by unfold rdRes; rw [lst_len, if_neg h4]; exact hr
    have e2 : rdE (lst b) = 1 := by unfold rdE; rw [lst_len, if_neg h4, hr]; rfl
    rw [e1, e2] at h
    exact h
  have FO : Hid (∀ e w', FromOut (lst b) e w' → e = .returned (.tuple #[.agg #[.int .i64 0, .slice none 0 0], .bool false])) := fun e w' h => by
    unfold FromOut at h
    rw [doc_same (lst_byt b), hr] at h
    exact h
  clear h4 hr
  go_enter Try.func5, Try.ntmps5
  go_upto_region 1 with fail
  rw [← HWE.out]
  clear HWE
  go_wp2_with fail
  refine HCW.out.mono ?_
  rintro e w1 ⟨S, rfl, hS, hb⟩
  have B1 : Hid (Below W.heap.size W w1) := hb
  have HS := hid hS
  have p0 := ext_cell hb p0
  have p1 := ext_cell hb p1
  clear hb hS HCW
  have hSe : S = { data := #[] } := lst_eq HS.out
  subst hSe
  go_wp2_with fail
  refine (CC.out _ B1.out).mono ?_
  rintro e w2 ⟨rfl, hb⟩
  have B2 : Hid (Below W.heap.size W w2) := grow_trans B1.out hb
  have p0 := ext_cell hb p0
  have p1 := ext_cell hb p1
  clear hb CC B1
  go_wp2_with fail
  refine (wireRead_any b _).mono ?_
  rintro e w4 ⟨hb, ho⟩
  have ho := RO.out e w4 ho
  subst ho
  have B4 : Hid (Below W.heap.size W w4) := grow_trans B2.out hb
  clear hb B2 RO
  obtain ⟨V, hV⟩ : ∃ V, V = w4.alloc (.cells #[.int .i64 0, .slice none 0 0] 50) := ⟨_, rfl⟩
  have HV : Hid (V = w4.alloc (.cells #[.int .i64 0, .slice none 0 0] 50)) := hV
  have q0 : V.cell? ⟨w4.heap.size, 0, none⟩ = some (.int .i64 0) := by subst hV; simp
  have q1 : V.cell? ⟨w4.heap.size, 1, none⟩ = some (.slice none 0 0) := by subst hV; simp
  have BV : Hid (Below W.heap.size W V) := by subst hV; exact grow_alloc B4.out _
  clear hV B4
  go_upto_region 7 with fail
  rw [← HV.out]
  clear HV
  generalize w4.heap.size = Y at *
  go_wp2_with fail
  refine (docFrom_any b _).mono ?_
  rintro e w5 ⟨hb, ho⟩
  have ho := FO.out e w5 ho
  subst ho
  have q0 := ext_cell hb q0
  have q1 := ext_cell hb q1
  have B5 : Hid (Below W.heap.size W w5) := grow_trans BV.out hb
  clear hb BV FO
  obtain ⟨U, hU⟩ : ∃ V, V = w5.alloc (.cells #[.int .i64 0, .slice none 0 0] 50) := ⟨_, rfl⟩
  have HU : Hid (U = w5.alloc (.cells #[.int .i64 0, .slice none 0 0] 50)) := hU
  have s0 : U.cell? ⟨w5.heap.size, 0, none⟩ = some (.int .i64 0) := by subst hU; simp
  have s1 : U.cell? ⟨w5.heap.size, 1, none⟩ = some (.slice none 0 0) := by subst hU; simp
  have CS : Hid (∀ w', Below U.heap.size U w' → Calls Try.prog 22 #[.slice none 0 0, .slice none 0 0] w' fun e w'' => e = .returned (.bool true) ∧ Below w'.heap.size w' w'') := fun w' _ => sameTxns_eq [] [] none none 0 0 w' rfl (by simp) (fun x hx => by cases hx) (fun i hi => absurd hi (by simp)) (fun i hi => absurd hi (by simp))
  have BU : Hid (Below W.heap.size W U) := by subst hU; exact grow_alloc B5.out _
  have q0 : U.cell? ⟨Y, 0, none⟩ = some (.int .i64 0) := by subst hU; exact ext_cell (grow_alloc (Below.refl _ _) _) q0
  have q1 : U.cell? ⟨Y, 1, none⟩ = some (.slice none 0 0) := by subst hU; exact ext_cell (grow_alloc (Below.refl _ _) _) q1
  clear hU B5
  go_upto_region 10 with fail
  rw [← HU.out]
  clear HU
  generalize w5.heap.size = Z at *
  go_wp2_with fail
  refine (wireBegun_any _).mono ?_
  rintro e w6 ⟨rfl, hb⟩
  have q0 := ext_cell hb q0
  have q1 := ext_cell hb q1
  have s0 := ext_cell hb s0
  have s1 := ext_cell hb s1
  have B6 := hid hb
  clear hb
  go_wp2_with fail
  refine (CS.out _ B6.out).mono ?_
  rintro e w7 ⟨rfl, hb⟩
  have BF : Hid (Below w.heap.size w w7) := grow_trans BW.out (grow_trans BU.out (grow_trans B6.out hb))
  clear hb BU B6 CS
  go_wp2_with fail
  go_ret
  exact ⟨rfl, BF.out⟩
set_option maxRecDepth 100000 in
set_option maxHeartbeats 2000000 in
theorem ww_1some (w : World) (hl : IsTxs w la l) (hE : ¬ planE m l = 0) (h4 : ¬ 4096 < b.size) (p : Int × List Core) (hr : rdOk (lst b) = some p) :
    Calls Try.prog 5 #[.agg #[.int .i64 m, .slice la l.length lc], .string b] w fun e w' => e = .returned (.bool true) ∧ Below w.heap.size w w' := by
  obtain ⟨W, hWe⟩ : ∃ W, W = w.alloc (.cells #[.int .i64 m, .slice la l.length lc] 50) := ⟨_, rfl⟩
  have HWE : Hid (W = w.alloc (.cells #[.int .i64 m, .slice la l.length lc] 50)) := hWe
  have p0 : W.cell? ⟨w.heap.size, 0, none⟩ = some (.int .i64 m) := by subst hWe; simp
  have p1 : W.cell? ⟨w.heap.size, 1, none⟩ = some (.slice la l.length lc) := by subst hWe; simp
  have BW : Hid (Below w.heap.size w W) := by subst hWe; exact grow_alloc (Below.refl _ _) _
  have HL : Hid (IsTxs W la l) := hl.below BW.out
  clear hl hWe
  have CW := wireWrite_any la lc l m W HL.out
  have CC : Hid (∀ w', Below W.heap.size W w' → Calls Try.prog 17 #[.agg #[.int .i64 m, .slice la l.length lc]] w' fun e w'' => e = .returned (.int .i64 (planE m l)) ∧ Below w'.heap.size w' w'') := fun w' hb => checkPlan_any la lc l m w' (HL.out.below hb)
  have hw : wrL m l = [] := if_neg hE
  rw [hw] at CW
  have hE2 : (planE m l == 0) = false := by simpa using hE
  have hE3 : ¬ planE m l = 0 := hE
  have HCW := hid CW
  clear CW hw hE HL
  generalize planE m l = EE at *
  have hi4 : ¬ (4096 : Int) < (b.size : Int) := by omega
  have RO : Hid (∀ e w', RdOut (lst b) e w' → ∃ (a : Option Addr) (cl : List TxA) (c : Nat), e = .returned (.tuple #[.agg #[.int .i64 p.1, .slice a cl.length c], .int .i64 0]) ∧ IsTxs w' a cl ∧ cl.map TxA.core = p.2) := fun e w' h => by
    unfold RdOut at h
    have e1 : rdRes (lst b) = some p := by unfold rdRes; rw [lst_len, if_neg h4]; exact hr
    rw [e1] at h
    exact h
  have FO : Hid (∀ e w', FromOut (lst b) e w' → ∃ (a : Option Addr) (cl : List TxA) (c : Nat), e = .returned (.tuple #[.agg #[.int .i64 p.1, .slice a cl.length c], .bool true]) ∧ IsTxs w' a cl ∧ cl.map TxA.core = p.2) := fun e w' h => by
    unfold FromOut at h
    rw [doc_same (lst_byt b), hr] at h
    exact h
  have SM : Hid (∀ cl : List TxA, cl.map TxA.core = p.2 → cl.length ≤ 8 ∧ ∀ x ∈ cl, x.rs.length ≤ 100 ∧ x.gs.length ≤ 100 ∧ x.ss.length ≤ 100) := fun cl h => small_core h (bytes_of_rd (lst_byt b) hr).2
  clear h4 hr
  obtain ⟨p1', p2'⟩ := p
  simp only at RO FO SM
  go_enter Try.func5, Try.ntmps5
  go_upto_region 1 with fail
  rw [← HWE.out]
  clear HWE
  go_wp2_with fail
  refine HCW.out.mono ?_
  rintro e w1 ⟨S, rfl, hS, hb⟩
  have B1 : Hid (Below W.heap.size W w1) := hb
  have HS := hid hS
  have p0 := ext_cell hb p0
  have p1 := ext_cell hb p1
  clear hb hS HCW
  have hSe : S = { data := #[] } := lst_eq HS.out
  subst hSe
  go_wp2_with fail
  refine (CC.out _ B1.out).mono ?_
  rintro e w2 ⟨rfl, hb⟩
  have B2 : Hid (Below W.heap.size W w2) := grow_trans B1.out hb
  have p0 := ext_cell hb p0
  have p1 := ext_cell hb p1
  clear hb CC B1
  go_wp2_with fail
  refine (wireRead_any b _).mono ?_
  rintro e w4 ⟨hb, ho⟩
  obtain ⟨a1, cl, c1, rfl, htx, hcl⟩ := RO.out e w4 ho
  have B4 : Hid (Below W.heap.size W w4) := grow_trans B2.out hb
  have HCL := hid hcl
  clear hb B2 RO ho
  obtain ⟨V, hV⟩ : ∃ V, V = w4.alloc (.cells #[.int .i64 p1', .slice a1 cl.length c1] 50) := ⟨_, rfl⟩
  have HV : Hid (V = w4.alloc (.cells #[.int .i64 p1', .slice a1 cl.length c1] 50)) := hV
  have q0 : V.cell? ⟨w4.heap.size, 0, none⟩ = some (.int .i64 p1') := by subst hV; simp
  have q1 : V.cell? ⟨w4.heap.size, 1, none⟩ = some (.slice a1 cl.length c1) := by subst hV; simp
  have HTX : Hid (IsTxs V a1 cl) := by subst hV; exact htx.below (grow_alloc (Below.refl _ _) _)
  clear htx hcl
  have BV : Hid (Below W.heap.size W V) := by subst hV; exact grow_alloc B4.out _
  clear hV B4
  go_upto_region 7 with fail
  rw [← HV.out]
  clear HV
  generalize w4.heap.size = Y at *
  go_wp2_with fail
  refine (docFrom_any b _).mono ?_
  rintro e w5 ⟨hb, ho⟩
  obtain ⟨a2, cm, c2, rfl, htx2, hcm⟩ := FO.out e w5 ho
  have q0 := ext_cell hb q0
  have q1 := ext_cell hb q1
  have B5 : Hid (Below W.heap.size W w5) := grow_trans BV.out hb
  have HTX := hid (HTX.out.below hb)
  have HCM := hid hcm
  clear hb BV FO ho
  obtain ⟨U, hU⟩ : ∃ V, V = w5.alloc (.cells #[.int .i64 p1', .slice a2 cm.length c2] 50) := ⟨_, rfl⟩
  have HU : Hid (U = w5.alloc (.cells #[.int .i64 p1', .slice a2 cm.length c2] 50)) := hU
  have s0 : U.cell? ⟨w5.heap.size, 0, none⟩ = some (.int .i64 p1') := by subst hU; simp
  have s1 : U.cell? ⟨w5.heap.size, 1, none⟩ = some (.slice a2 cm.length c2) := by subst hU; simp
  have HTXU : Hid (IsTxs U a1 cl) := by subst hU; exact HTX.out.below (grow_alloc (Below.refl _ _) _)
  have HTX2 : Hid (IsTxs U a2 cm) := by subst hU; exact htx2.below (grow_alloc (Below.refl _ _) _)
  have CS : Hid (∀ w', Below U.heap.size U w' → Calls Try.prog 22 #[.slice a1 cl.length c1, .slice a2 cm.length c2] w' fun e w'' => e = .returned (.bool true) ∧ Below w'.heap.size w' w'') := fun w' hb => sameTxns_eq cl cm a1 a2 c1 c2 w' (HCL.out.trans HCM.out.symm) (by have := (SM.out cl HCL.out).1; omega) (SM.out cl HCL.out).2 (HTXU.out.below hb) (HTX2.out.below hb)
  clear htx2 hcm HTX HTXU HTX2 HCL HCM SM
  have BU : Hid (Below W.heap.size W U) := by subst hU; exact grow_alloc B5.out _
  have q0 : U.cell? ⟨Y, 0, none⟩ = some (.int .i64 p1') := by subst hU; exact ext_cell (grow_alloc (Below.refl _ _) _) q0
  have q1 : U.cell? ⟨Y, 1, none⟩ = some (.slice a1 cl.length c1) := by subst hU; exact ext_cell (grow_alloc (Below.refl _ _) _) q1
  clear hU B5
  go_upto_region 10 with fail
  rw [← HU.out]
  clear HU
  generalize w5.heap.size = Z at *
  go_wp2_with fail
  refine (wireBegun_any _).mono ?_
  rintro e w6 ⟨rfl, hb⟩
  have q0 := ext_cell hb q0
  have q1 := ext_cell hb q1
  have s0 := ext_cell hb s0
  have s1 := ext_cell hb s1
  have B6 := hid hb
  clear hb
  go_wp2_with fail
  refine (CS.out _ B6.out).mono ?_
  rintro e w7 ⟨rfl, hb⟩
  have BF : Hid (Below w.heap.size w w7) := grow_trans BW.out (grow_trans BU.out (grow_trans B6.out hb))
  clear hb BU B6 CS
  go_wp2_with fail
  go_ret
  exact ⟨rfl, BF.out⟩
theorem wireWrites_walk (w : World) (hl : IsTxs w la l) :
    Calls Try.prog 5 #[.agg #[.int .i64 m, .slice la l.length lc], .string b] w fun e w' => e = .returned (.bool true) ∧ Below w.heap.size w w' := by
  by_cases hE : planE m l = 0
  · by_cases h4 : 4096 < b.size
    · exact ww_0many la lc l m b w hl hE h4
    · cases hr : rdOk (lst b) with
      | none => exact ww_0none la lc l m b w hl hE h4 hr
      | some p => exact ww_0some la lc l m b w hl hE h4 p hr
  · by_cases h4 : 4096 < b.size
    · exact ww_1many la lc l m b w hl hE h4
    · cases hr : rdOk (lst b) with
      | none => exact ww_1none la lc l m b w hl hE h4 hr
      | some p => exact ww_1some la lc l m b w hl hE h4 p hr
end Go.Proofs.Ytcgpkonfneofdaa
