/-
  WireBack, walked.
  Conditions: those that each theorem states.
-/
import Derived.Test.YtcgpkonfneofdaaWirMI
import Derived.WalkKit
import Derived.WalkSpells
import Derived.WalkLawsBesides
import Derived.Defers
import Derived.Recover
import Derived.ProofKit
import Derived.Deep.RegionHeld
import Derived.Deep.RegionHeld3
import Derived.Deep.RegionLaw
import Derived.Deep.DeepCutAuto
import Derived.Deep.QuietTactic
import Derived.BigQuiet
import Derived.Maps.AppendAt
import Derived.Lib.SliceRun
import Derived.Deep.AppendLies
namespace Go.Proofs.Ytcgpkonfneofdaa
open Go.RowKit

variable (la : Option Addr) (lc : Nat) (l : List TxA) (m : Int) (b : ByteArray)
set_option maxRecDepth 100000 in
set_option maxHeartbeats 2000000 in
theorem wk_0none (w : World) (hl : IsTxs w la l) (hE : planE m l = 0) (hv : ∀ x ∈ l, V64 x) (hr : rdRes (lst b) = none) :
    Calls Try.prog 6 #[.agg #[.int .i64 m, .slice la l.length lc], .string b] w fun e w' => e = .returned (.bool true) ∧ Below w.heap.size w w' := by
  obtain ⟨W, hWe⟩ : ∃ W, W = w.alloc (.cells #[.int .i64 m, .slice la l.length lc] 50) := ⟨_, rfl⟩
  have HWE : Hid (W = w.alloc (.cells #[.int .i64 m, .slice la l.length lc] 50)) := hWe
  have p0 : W.cell? ⟨w.heap.size, 0, none⟩ = some (.int .i64 m) := by subst hWe; simp
  have p1 : W.cell? ⟨w.heap.size, 1, none⟩ = some (.slice la l.length lc) := by subst hWe; simp
  have BW : Hid (Below w.heap.size w W) := by subst hWe; exact grow_alloc (Below.refl _ _) _
  have HL : Hid (IsTxs W la l) := hl.below BW.out
  clear hl hWe
  have CW := wireWrite_any la lc l m W HL.out
  have hw : wrL m l = plB m l := if_pos hE
  rw [hE, hw] at CW
  have hok := okP_of hE hv
  have h8 := (few_of hE).1
  have hlenB : (plB m l).length ≤ 4096 := by
    have hf := (few_of hE).2
    have := xsB_len l hf l.length (Nat.le_refl _)
    rw [List.take_length] at this
    simp only [plB, xsB, List.length_cons]
    omega
  have RP : Hid (∀ s : ByteArray, lst s = plB m l → ∀ e w', RdOut (lst s) e w' → ∃ (a : Option Addr) (cl : List TxA) (c : Nat), e = .returned (.tuple #[.agg #[.int .i64 m, .slice a cl.length c], .int .i64 0]) ∧ IsTxs w' a cl ∧ cl.map TxA.core = l.map TxA.core) := fun s hs e w' h => by
    have e1 : rdRes (lst s) = some (m, l.map TxA.core) := by
      unfold rdRes
      rw [hs, if_neg (by omega), plB_core]
      exact rd_of_bytes hok (by rw [planE_core]; exact hE)
    unfold RdOut at h
    rw [e1] at h
    exact h
  have SMl : Hid (l.length ≤ 8 ∧ ∀ x ∈ l, x.rs.length ≤ 100 ∧ x.gs.length ≤ 100 ∧ x.ss.length ≤ 100) := small_core (p := (m, l.map TxA.core)) rfl (by rw [planE_core]; exact hE)
  have HCW := hid CW
  clear CW hw hE hok hlenB hv h8
  generalize plB m l = PB at *
  have hne : ¬ rdE (lst b) = 0 := by
    unfold rdE
    unfold rdRes at hr
    by_cases h4 : 4096 < (lst b).length
    · rw [if_pos h4]; decide
    · rw [if_neg h4] at hr ⊢
      rw [hr]; decide
  have hne2 : (rdE (lst b) != 0) = true := by simpa using hne
  have RO : Hid (∀ e w', RdOut (lst b) e w' → e = .returned (.tuple #[.agg #[.int .i64 0, .slice none 0 0], .int .i64 (rdE (lst b))])) := fun e w' h => by
    unfold RdOut at h
    rw [hr] at h
    exact h
  clear hr
  generalize rdE (lst b) = RE at *
  go_enter Try.func6, Try.ntmps6
  go_upto_region 1 with fail
  rw [← HWE.out]
  clear HWE
  go_wp2_with fail
  refine HCW.out.mono ?_
  rintro e w1 ⟨S, rfl, hS, hb⟩
  have B1 : Hid (Below W.heap.size W w1) := hb
  have HS := hid hS
  have p0 := ext_cell hb p0
  have p1 := ext_cell hb p1
  clear hb hS HCW
  go_wp2_with fail
  refine (wireRead_any S _).mono ?_
  rintro e w2 ⟨hb, ho⟩
  obtain ⟨a1, cl, c1, rfl, htx, hcl⟩ := RP.out S HS.out e w2 ho
  have p0 := ext_cell hb p0
  have p1 := ext_cell hb p1
  have B2 : Hid (Below W.heap.size W w2) := grow_trans B1.out hb
  have HCL := hid hcl
  clear hb B1 RP ho
  obtain ⟨V, hV⟩ : ∃ V, V = w2.alloc (.cells #[.int .i64 m, .slice a1 cl.length c1] 50) := ⟨_, rfl⟩
  have HV : Hid (V = w2.alloc (.cells #[.int .i64 m, .slice a1 cl.length c1] 50)) := hV
  have q0 : V.cell? ⟨w2.heap.size, 0, none⟩ = some (.int .i64 m) := by subst hV; simp
  have q1 : V.cell? ⟨w2.heap.size, 1, none⟩ = some (.slice a1 cl.length c1) := by subst hV; simp
  have p0 : V.cell? ⟨w.heap.size, 0, none⟩ = some (.int .i64 m) := by subst hV; exact ext_cell (grow_alloc (Below.refl _ _) _) p0
  have p1 : V.cell? ⟨w.heap.size, 1, none⟩ = some (.slice la l.length lc) := by subst hV; exact ext_cell (grow_alloc (Below.refl _ _) _) p1
  have BV : Hid (Below W.heap.size W V) := by subst hV; exact grow_alloc B2.out _
  have HTX : Hid (IsTxs V a1 cl) := by subst hV; exact htx.below (grow_alloc (Below.refl _ _) _)
  have CS : Hid (Calls Try.prog 22 #[.slice a1 cl.length c1, .slice la l.length lc] V fun e w'' => e = .returned (.bool true) ∧ Below V.heap.size V w'') := by
    have hlen : cl.length = l.length := by have := congrArg List.length HCL.out; simpa using this
    refine sameTxns_eq cl l a1 la c1 lc V HCL.out (by have := SMl.out.1; omega) (fun x hx => ?_) HTX.out (HL.out.below BV.out)
    have hm : x.core ∈ l.map TxA.core := by rw [← HCL.out]; exact List.mem_map.2 ⟨x, hx, rfl⟩
    obtain ⟨y, hy, he⟩ := List.mem_map.1 hm
    have h := SMl.out.2 y hy
    have e1 : y.rs = x.rs := congrArg (fun c : Core => c.1) he
    have e2 : y.gs = x.gs := congrArg (fun c : Core => c.2.1) he
    have e3 : y.ss = x.ss := congrArg (fun c : Core => c.2.2) he
    rw [e1, e2, e3] at h
    exact h
  clear htx hcl hV B2 SMl HTX HL HCL
  go_upto_region 4 with fail
  rw [← HV.out]
  clear HV
  generalize w2.heap.size = Y at *
  go_wp2_with fail
  refine CS.out.mono ?_
  rintro e w3 ⟨rfl, hb⟩
  have B1 : Hid (Below W.heap.size W w3) := grow_trans BV.out hb
  clear hb BV CS p0 p1 q0 q1
  go_wp2_with fail
  refine (wireRead_any b _).mono ?_
  rintro e w4 ⟨hb, ho⟩
  have ho := RO.out e w4 ho
  subst ho
  have B4 : Hid (Below W.heap.size W w4) := grow_trans B1.out hb
  clear hb B1 RO
  go_wp2_with fail
  refine (wireBegun_any _).mono ?_
  rintro e w5 ⟨rfl, hb⟩
  have BF : Hid (Below w.heap.size w w5) := grow_trans BW.out (grow_trans (grow_alloc B4.out _) hb)
  clear hb B4
  go_wp2
  go_ret
  exact ⟨rfl, BF.out⟩
set_option maxRecDepth 100000 in
set_option maxHeartbeats 2000000 in
theorem wk_0some (w : World) (hl : IsTxs w la l) (hE : planE m l = 0) (hv : ∀ x ∈ l, V64 x) (p : Int × List Core) (hr : rdRes (lst b) = some p) :
    Calls Try.prog 6 #[.agg #[.int .i64 m, .slice la l.length lc], .string b] w fun e w' => e = .returned (.bool true) ∧ Below w.heap.size w w' := by
  obtain ⟨W, hWe⟩ : ∃ W, W = w.alloc (.cells #[.int .i64 m, .slice la l.length lc] 50) := ⟨_, rfl⟩
  have HWE : Hid (W = w.alloc (.cells #[.int .i64 m, .slice la l.length lc] 50)) := hWe
  have p0 : W.cell? ⟨w.heap.size, 0, none⟩ = some (.int .i64 m) := by subst hWe; simp
  have p1 : W.cell? ⟨w.heap.size, 1, none⟩ = some (.slice la l.length lc) := by subst hWe; simp
  have BW : Hid (Below w.heap.size w W) := by subst hWe; exact grow_alloc (Below.refl _ _) _
  have HL : Hid (IsTxs W la l) := hl.below BW.out
  clear hl hWe
  have CW := wireWrite_any la lc l m W HL.out
  have hw : wrL m l = plB m l := if_pos hE
  rw [hE, hw] at CW
  have hok := okP_of hE hv
  have h8 := (few_of hE).1
  have hlenB : (plB m l).length ≤ 4096 := by
    have hf := (few_of hE).2
    have := xsB_len l hf l.length (Nat.le_refl _)
    rw [List.take_length] at this
    simp only [plB, xsB, List.length_cons]
    omega
  have RP : Hid (∀ s : ByteArray, lst s = plB m l → ∀ e w', RdOut (lst s) e w' → ∃ (a : Option Addr) (cl : List TxA) (c : Nat), e = .returned (.tuple #[.agg #[.int .i64 m, .slice a cl.length c], .int .i64 0]) ∧ IsTxs w' a cl ∧ cl.map TxA.core = l.map TxA.core) := fun s hs e w' h => by
    have e1 : rdRes (lst s) = some (m, l.map TxA.core) := by
      unfold rdRes
      rw [hs, if_neg (by omega), plB_core]
      exact rd_of_bytes hok (by rw [planE_core]; exact hE)
    unfold RdOut at h
    rw [e1] at h
    exact h
  have SMl : Hid (l.length ≤ 8 ∧ ∀ x ∈ l, x.rs.length ≤ 100 ∧ x.gs.length ≤ 100 ∧ x.ss.length ≤ 100) := small_core (p := (m, l.map TxA.core)) rfl (by rw [planE_core]; exact hE)
  have HCW := hid CW
  clear CW hw hE hok hlenB hv h8
  generalize plB m l = PB at *
  have hk : rdOk (lst b) = some p := by
    unfold rdRes at hr
    by_cases h4 : 4096 < (lst b).length
    · rw [if_pos h4] at hr; cases hr
    · rw [if_neg h4] at hr; exact hr
  obtain ⟨hB1, hB2⟩ := bytes_of_rd (lst_byt b) hk
  have RO : Hid (∀ e w', RdOut (lst b) e w' → ∃ (a : Option Addr) (cl : List TxA) (c : Nat), e = .returned (.tuple #[.agg #[.int .i64 p.1, .slice a cl.length c], .int .i64 0]) ∧ IsTxs w' a cl ∧ cl.map TxA.core = p.2) := fun e w' h => by
    unfold RdOut at h
    rw [hr] at h
    exact h
  have CY : Hid (∀ (a : Option Addr) (cl : List TxA) (c : Nat) w', IsTxs w' a cl → cl.map TxA.core = p.2 → Calls Try.prog 16 #[.agg #[.int .i64 p.1, .slice a cl.length c]] w' fun e w'' => e = .returned (.tuple #[.string b, .int .i64 0]) ∧ Below w'.heap.size w' w'') := fun a cl c w' hx hc => by
    have hEc : planE p.1 cl = 0 := by rw [← planE_core, hc]; exact hB2
    refine (wireWrite_any a c cl p.1 w' hx).mono fun e w'' ⟨S, he, hS, hb⟩ => ?_
    rw [hEc] at he
    have : S = b := lst_eq (by rw [hS, wrL, if_pos hEc, plB_core, hc]; exact hB1)
    subst this
    exact ⟨he, hb⟩
  clear hr hk hB1 hB2
  obtain ⟨p1', p2'⟩ := p
  simp only at RO CY
  go_enter Try.func6, Try.ntmps6
  go_upto_region 1 with fail
  rw [← HWE.out]
  clear HWE
  go_wp2_with fail
  refine HCW.out.mono ?_
  rintro e w1 ⟨S, rfl, hS, hb⟩
  have B1 : Hid (Below W.heap.size W w1) := hb
  have HS := hid hS
  have p0 := ext_cell hb p0
  have p1 := ext_cell hb p1
  clear hb hS HCW
  go_wp2_with fail
  refine (wireRead_any S _).mono ?_
  rintro e w2 ⟨hb, ho⟩
  obtain ⟨a1, cl, c1, rfl, htx, hcl⟩ := RP.out S HS.out e w2 ho
  have p0 := ext_cell hb p0
  have p1 := ext_cell hb p1
  have B2 : Hid (Below W.heap.size W w2) := grow_trans B1.out hb
  have HCL := hid hcl
  clear hb B1 RP ho
  obtain ⟨V, hV⟩ : ∃ V, V = w2.alloc (.cells #[.int .i64 m, .slice a1 cl.length c1] 50) := ⟨_, rfl⟩
  have HV : Hid (V = w2.alloc (.cells #[.int .i64 m, .slice a1 cl.length c1] 50)) := hV
  have q0 : V.cell? ⟨w2.heap.size, 0, none⟩ = some (.int .i64 m) := by subst hV; simp
  have q1 : V.cell? ⟨w2.heap.size, 1, none⟩ = some (.slice a1 cl.length c1) := by subst hV; simp
  have p0 : V.cell? ⟨w.heap.size, 0, none⟩ = some (.int .i64 m) := by subst hV; exact ext_cell (grow_alloc (Below.refl _ _) _) p0
  have p1 : V.cell? ⟨w.heap.size, 1, none⟩ = some (.slice la l.length lc) := by subst hV; exact ext_cell (grow_alloc (Below.refl _ _) _) p1
  have BV : Hid (Below W.heap.size W V) := by subst hV; exact grow_alloc B2.out _
  have HTX : Hid (IsTxs V a1 cl) := by subst hV; exact htx.below (grow_alloc (Below.refl _ _) _)
  have CS : Hid (Calls Try.prog 22 #[.slice a1 cl.length c1, .slice la l.length lc] V fun e w'' => e = .returned (.bool true) ∧ Below V.heap.size V w'') := by
    have hlen : cl.length = l.length := by have := congrArg List.length HCL.out; simpa using this
    refine sameTxns_eq cl l a1 la c1 lc V HCL.out (by have := SMl.out.1; omega) (fun x hx => ?_) HTX.out (HL.out.below BV.out)
    have hm : x.core ∈ l.map TxA.core := by rw [← HCL.out]; exact List.mem_map.2 ⟨x, hx, rfl⟩
    obtain ⟨y, hy, he⟩ := List.mem_map.1 hm
    have h := SMl.out.2 y hy
    have e1 : y.rs = x.rs := congrArg (fun c : Core => c.1) he
    have e2 : y.gs = x.gs := congrArg (fun c : Core => c.2.1) he
    have e3 : y.ss = x.ss := congrArg (fun c : Core => c.2.2) he
    rw [e1, e2, e3] at h
    exact h
  clear htx hcl hV B2 SMl HTX HL HCL
  go_upto_region 4 with fail
  rw [← HV.out]
  clear HV
  generalize w2.heap.size = Y at *
  go_wp2_with fail
  refine CS.out.mono ?_
  rintro e w3 ⟨rfl, hb⟩
  have B1 : Hid (Below W.heap.size W w3) := grow_trans BV.out hb
  clear hb BV CS p0 p1 q0 q1
  go_wp2_with fail
  refine (wireRead_any b _).mono ?_
  rintro e w4 ⟨hb, ho⟩
  obtain ⟨a5, cm, c5, rfl, htx, hcm⟩ := RO.out e w4 ho
  have B4 : Hid (Below W.heap.size W w4) := grow_trans B1.out hb
  have HCM := hid hcm
  clear hb B1 RO ho
  obtain ⟨U, hU⟩ : ∃ V, V = w4.alloc (.cells #[.int .i64 p1', .slice a5 cm.length c5] 50) := ⟨_, rfl⟩
  have HU : Hid (U = w4.alloc (.cells #[.int .i64 p1', .slice a5 cm.length c5] 50)) := hU
  have s0 : U.cell? ⟨w4.heap.size, 0, none⟩ = some (.int .i64 p1') := by subst hU; simp
  have s1 : U.cell? ⟨w4.heap.size, 1, none⟩ = some (.slice a5 cm.length c5) := by subst hU; simp
  have BU : Hid (Below W.heap.size W U) := by subst hU; exact grow_alloc B4.out _
  have CYU := hid (CY.out a5 cm c5 U (by subst hU; exact htx.below (grow_alloc (Below.refl _ _) _)) hcm)
  clear htx hcm hU B4 CY
  go_upto_region 7 with fail
  rw [← HU.out]
  clear HU
  generalize w4.heap.size = Z at *
  go_wp2_with fail
  refine CYU.out.mono ?_
  rintro e w5 ⟨rfl, hb⟩
  have B5 : Hid (Below W.heap.size W w5) := grow_trans BU.out hb
  clear hb BU CYU
  go_wp2_with fail
  refine (wireBegun_any _).mono ?_
  rintro e w6 ⟨rfl, hb⟩
  have BF : Hid (Below w.heap.size w w6) := grow_trans BW.out (grow_trans B5.out hb)
  clear hb B5
  go_wp2
  go_ret
  exact ⟨rfl, BF.out⟩
set_option maxRecDepth 100000 in
set_option maxHeartbeats 2000000 in
theorem wk_1none (w : World) (hl : IsTxs w la l) (hE : ¬ planE m l = 0) (hr : rdRes (lst b) = none) :
    Calls Try.prog 6 #[.agg #[.int .i64 m, .slice la l.length lc], .string b] w fun e w' => e = .returned (.bool true) ∧ Below w.heap.size w w' := by
  obtain ⟨W, hWe⟩ : ∃ W, W = w.alloc (.cells #[.int .i64 m, .slice la l.length lc] 50) := ⟨_, rfl⟩
  have HWE : Hid (W = w.alloc (.cells #[.int .i64 m, .slice la l.length lc] 50)) := hWe
  have p0 : W.cell? ⟨w.heap.size, 0, none⟩ = some (.int .i64 m) := by subst hWe; simp
  have p1 : W.cell? ⟨w.heap.size, 1, none⟩ = some (.slice la l.length lc) := by subst hWe; simp
  have BW : Hid (Below w.heap.size w W) := by subst hWe; exact grow_alloc (Below.refl _ _) _
  have HL : Hid (IsTxs W la l) := hl.below BW.out
  clear hl hWe
  have CW := wireWrite_any la lc l m W HL.out
  have hE2 : (planE m l == 0) = false := by simpa using hE
  have hE3 : ¬ planE m l = 0 := hE
  have HCW := hid CW
  clear CW hE HL
  generalize planE m l = EE at *
  have hne : ¬ rdE (lst b) = 0 := by
    unfold rdE
    unfold rdRes at hr
    by_cases h4 : 4096 < (lst b).length
    · rw [if_pos h4]; decide
    · rw [if_neg h4] at hr ⊢
      rw [hr]; decide
  have hne2 : (rdE (lst b) != 0) = true := by simpa using hne
  have RO : Hid (∀ e w', RdOut (lst b) e w' → e = .returned (.tuple #[.agg #[.int .i64 0, .slice none 0 0], .int .i64 (rdE (lst b))])) := fun e w' h => by
    unfold RdOut at h
    rw [hr] at h
    exact h
  clear hr
  generalize rdE (lst b) = RE at *
  go_enter Try.func6, Try.ntmps6
  go_upto_region 1 with fail
  rw [← HWE.out]
  clear HWE
  go_wp2_with fail
  refine HCW.out.mono ?_
  rintro e w1 ⟨S, rfl, hS, hb⟩
  have B1 : Hid (Below W.heap.size W w1) := hb
  have HS := hid hS
  have p0 := ext_cell hb p0
  have p1 := ext_cell hb p1
  clear hb hS HCW
  go_wp2_with fail
  refine (wireRead_any b _).mono ?_
  rintro e w4 ⟨hb, ho⟩
  have ho := RO.out e w4 ho
  subst ho
  have B4 : Hid (Below W.heap.size W w4) := grow_trans B1.out hb
  clear hb B1 RO
  go_wp2_with fail
  refine (wireBegun_any _).mono ?_
  rintro e w5 ⟨rfl, hb⟩
  have BF : Hid (Below w.heap.size w w5) := grow_trans BW.out (grow_trans (grow_alloc B4.out _) hb)
  clear hb B4
  go_wp2
  go_ret
  exact ⟨rfl, BF.out⟩
set_option maxRecDepth 100000 in
set_option maxHeartbeats 2000000 in
theorem wk_1some (w : World) (hl : IsTxs w la l) (hE : ¬ planE m l = 0) (p : Int × List Core) (hr : rdRes (lst b) = some p) :
    Calls Try.prog 6 #[.agg #[.int .i64 m, .slice la l.length lc], .string b] w fun e w' => e = .returned (.bool true) ∧ Below w.heap.size w w' := by
  obtain ⟨W, hWe⟩ : ∃ W, W = w.alloc (.cells #[.int .i64 m, .slice la l.length lc] 50) := ⟨_, rfl⟩
  have HWE : Hid (W = w.alloc (.cells #[.int .i64 m, .slice la l.length lc] 50)) := hWe
  have p0 : W.cell? ⟨w.heap.size, 0, none⟩ = some (.int .i64 m) := by subst hWe; simp
  have p1 : W.cell? ⟨w.heap.size, 1, none⟩ = some (.slice la l.length lc) := by subst hWe; simp
  have BW : Hid (Below w.heap.size w W) := by subst hWe; exact grow_alloc (Below.refl _ _) _
  have HL : Hid (IsTxs W la l) := hl.below BW.out
  clear hl hWe
  have CW := wireWrite_any la lc l m W HL.out
  have hE2 : (planE m l == 0) = false := by simpa using hE
  have hE3 : ¬ planE m l = 0 := hE
  have HCW := hid CW
  clear CW hE HL
  generalize planE m l = EE at *
  have hk : rdOk (lst b) = some p := by
    unfold rdRes at hr
    by_cases h4 : 4096 < (lst b).length
    · rw [if_pos h4] at hr; cases hr
    · rw [if_neg h4] at hr; exact hr
  obtain ⟨hB1, hB2⟩ := bytes_of_rd (lst_byt b) hk
  have RO : Hid (∀ e w', RdOut (lst b) e w' → ∃ (a : Option Addr) (cl : List TxA) (c : Nat), e = .returned (.tuple #[.agg #[.int .i64 p.1, .slice a cl.length c], .int .i64 0]) ∧ IsTxs w' a cl ∧ cl.map TxA.core = p.2) := fun e w' h => by
    unfold RdOut at h
    rw [hr] at h
    exact h
  have CY : Hid (∀ (a : Option Addr) (cl : List TxA) (c : Nat) w', IsTxs w' a cl → cl.map TxA.core = p.2 → Calls Try.prog 16 #[.agg #[.int .i64 p.1, .slice a cl.length c]] w' fun e w'' => e = .returned (.tuple #[.string b, .int .i64 0]) ∧ Below w'.heap.size w' w'') := fun a cl c w' hx hc => by
    have hEc : planE p.1 cl = 0 := by rw [← planE_core, hc]; exact hB2
    refine (wireWrite_any a c cl p.1 w' hx).mono fun e w'' ⟨S, he, hS, hb⟩ => ?_
    rw [hEc] at he
    have : S = b := lst_eq (by rw [hS, wrL, if_pos hEc, plB_core, hc]; exact hB1)
    subst this
    exact ⟨he, hb⟩
  clear hr hk hB1 hB2
  obtain ⟨p1', p2'⟩ := p
  simp only at RO CY
  go_enter Try.func6, Try.ntmps6
  go_upto_region 1 with fail
  rw [← HWE.out]
  clear HWE
  go_wp2_with fail
  refine HCW.out.mono ?_
  rintro e w1 ⟨S, rfl, hS, hb⟩
  have B1 : Hid (Below W.heap.size W w1) := hb
  have HS := hid hS
  have p0 := ext_cell hb p0
  have p1 := ext_cell hb p1
  clear hb hS HCW
  go_wp2_with fail
  refine (wireRead_any b _).mono ?_
  rintro e w4 ⟨hb, ho⟩
  obtain ⟨a5, cm, c5, rfl, htx, hcm⟩ := RO.out e w4 ho
  have B4 : Hid (Below W.heap.size W w4) := grow_trans B1.out hb
  have HCM := hid hcm
  clear hb B1 RO ho
  obtain ⟨U, hU⟩ : ∃ V, V = w4.alloc (.cells #[.int .i64 p1', .slice a5 cm.length c5] 50) := ⟨_, rfl⟩
  have HU : Hid (U = w4.alloc (.cells #[.int .i64 p1', .slice a5 cm.length c5] 50)) := hU
  have s0 : U.cell? ⟨w4.heap.size, 0, none⟩ = some (.int .i64 p1') := by subst hU; simp
  have s1 : U.cell? ⟨w4.heap.size, 1, none⟩ = some (.slice a5 cm.length c5) := by subst hU; simp
  have BU : Hid (Below W.heap.size W U) := by subst hU; exact grow_alloc B4.out _
  have CYU := hid (CY.out a5 cm c5 U (by subst hU; exact htx.below (grow_alloc (Below.refl _ _) _)) hcm)
  clear htx hcm hU B4 CY
  go_upto_region 7 with fail
  rw [← HU.out]
  clear HU
  generalize w4.heap.size = Z at *
  go_wp2_with fail
  refine CYU.out.mono ?_
  rintro e w5 ⟨rfl, hb⟩
  have B5 : Hid (Below W.heap.size W w5) := grow_trans BU.out hb
  clear hb BU CYU
  go_wp2_with fail
  refine (wireBegun_any _).mono ?_
  rintro e w6 ⟨rfl, hb⟩
  have BF : Hid (Below w.heap.size w w6) := grow_trans BW.out (grow_trans B5.out hb)
  clear hb B5
  go_wp2
  go_ret
  exact ⟨rfl, BF.out⟩
theorem wireBack_walk (w : World) (hl : IsTxs w la l) (hv : ∀ x ∈ l, V64 x) :
    Calls Try.prog 6 #[.agg #[.int .i64 m, .slice la l.length lc], .string b] w fun e w' => e = .returned (.bool true) ∧ Below w.heap.size w w' := by
  by_cases hE : planE m l = 0
  · cases hr : rdRes (lst b) with
    | none => exact wk_0none la lc l m b w hl hE hv hr
    | some p => exact wk_0some la lc l m b w hl hE hv p hr
  · cases hr : rdRes (lst b) with
    | none => exact wk_1none la lc l m b w hl hE hr
    | some p => exact wk_1some la lc l m b w hl hE p hr
end Go.Proofs.Ytcgpkonfneofdaa
