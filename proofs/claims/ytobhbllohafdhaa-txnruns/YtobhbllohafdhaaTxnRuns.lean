/-
  Proved: for every transaction and list of values the law TxnRuns returns true: txn.Run answers just what the document says, errors too; the arguments read afterwards as they read before.
  Conditions: none.
-/
import Derived.Test.YtobhbllohafdhaaTxnN
import Derived.WalkKit
import Derived.WalkSpells
import Derived.WalkLawsBesides
import Derived.ProofKit
import Derived.OpenShut
import Derived.ChangeOld
import Derived.Deep.Slices
import Derived.Deep.Strs
import Derived.Deep.RegionHeld3
import Derived.BigQuiet
import Derived.Lib.SmallJoins
namespace Go.Proofs.Ytobhbllohafdhaa
open Go.ChangeShapes Go.WideShapes Go.ChangeAt Go.RowKit Go.Deep


theorem open_zs {H : Type} {enc : TypeId × Value → H} {w : World} {base b0 : Nat} {held : Bool} {v : Value} {d : DataW H} {p : List MemPlace} (hv : Value.okWide Try.prog w .any b0 24 v) (h : DataW.Trod enc Try.prog w base (fun _ => true) held 24 v d p) :
    ∃ (a : Option Addr) (zs : List Int) (cap : Nat), v = .slice a zs.length cap ∧ zs.length ≤ maxLen ∧ IsInts w a zs ∧ (a = none → cap = 0) := by
  obtain ⟨za, zl, zc, rfl⟩ := okWide_slice Try.underlying24 hv
  obtain ⟨fuel, hf⟩ := h
  exact open_rs (by simpa [Value.cells] using hf)

theorem at_of_ints {w : World} {a : Option Addr} {zs : List Int} (h : IsInts w a zs) : IsAt 0 w.heap.size w a zs := fun i hi => by
  obtain ⟨b, off, ha, hb, hc⟩ := h i hi
  exact ⟨b, off, ha, Nat.zero_le _, hb, hc⟩

variable (ra ga sa : Option Addr) (rc gc sc : Nat) (rs : List Int) (gs : List Gd) (ss : List St) (za : Option Addr) (zc : Nat) (zs : List Int)

set_option maxRecDepth 100000 in
set_option maxHeartbeats 2000000 in
theorem txnRuns_chk (w : World) (ht : IsTx w ra ga sa rs gs ss) (hz : IsInts w za zs) (hzl : zs.length ≤ maxLen) (hn : za = none → zc = 0) (hC : ¬ chkTx rs gs ss = 0) :
    Calls Try.prog 7 #[.agg #[.slice ra rs.length rc, .slice ga gs.length gc, .slice sa ss.length sc], .slice za zs.length zc] w fun e w' => e = .returned (.bool true) ∧ Below w.heap.size w w' := by
  have hE : runE rs gs ss zs = chkTx rs gs ss := by show firstNZ _ = _; rw [firstNZ, if_neg hC]
  have hn0 : ¬ runE rs gs ss zs = 0 := by rw [hE]; exact hC
  have e1 : Hid (runD rs gs ss zs = false) := if_neg hn0
  have e2 : Hid (runV rs gs ss zs = []) := if_neg hn0
  have e3 : Hid (runM rs gs ss zs = []) := if_neg hn0
  have e4 : Hid (runE rs gs ss zs = chkTx rs gs ss) := hE
  have hcb : (chkTx rs gs ss == 0) = false := by simpa using hC
  clear hE hC hn0
  have HT : Hid (IsTx w ra ga sa rs gs ss) := ht
  have HZ : Hid (IsInts w za zs) := hz
  have HN : Hid (za = none → zc = 0) := hn
  have hzl' : Hid (zs.length ≤ maxLen) := hzl
  clear ht hz hn hzl
  go_enter Try.func7, Try.ntmps7
  go_wp2_with fail
  refine (txnRun_any ra ga sa rc gc sc rs gs ss za zc zs _ (HT.out.below (grow_alloc (Below.refl _ _) _)) (HZ.out.below (grow_alloc (Below.refl _ _) _)) HN.out).mono ?_
  rintro e w1 ⟨va, vc, ma, mc, rfl, hva, hma, hb1⟩
  rw [e1.out, e2.out, e3.out, e4.out]
  rw [e2.out] at hva
  rw [e3.out] at hma
  have hv := hva.ints (Nat.le_refl _)
  have hm := hma.ints (Nat.le_refl _)
  have x0 : w1.cell? ⟨w.heap.size, 0, none⟩ = some (.slice ra rs.length rc) := ext_cell hb1 (by simp)
  have x1 : w1.cell? ⟨w.heap.size, 1, none⟩ = some (.slice ga gs.length gc) := ext_cell hb1 (by simp)
  have x2 : w1.cell? ⟨w.heap.size, 2, none⟩ = some (.slice sa ss.length sc) := ext_cell hb1 (by simp)
  have B1 : Below w.heap.size w w1 := grow_trans (grow_alloc (Below.refl _ _) _) hb1
  have U1 : Below w1.heap.size w1 (w1.alloc (.cells #[.bool false, .slice va 0 vc] 50)) := grow_alloc (Below.refl _ _) _
  have y0 := ext_cell U1 x0
  have y1 := ext_cell U1 x1
  have y2 := ext_cell U1 x2
  have r0 : (w1.alloc (.cells #[.bool false, .slice va 0 vc] 50)).cell? ⟨w1.heap.size, 0, none⟩ = some (.bool false) := by simp
  have r1 : (w1.alloc (.cells #[.bool false, .slice va 0 vc] 50)).cell? ⟨w1.heap.size, 1, none⟩ = some (.slice va 0 vc) := by simp
  clear hva hma hb1 x0 x1 x2
  go_wp2_with fail
  refine (checkTxn_any ra ga sa rc gc sc rs gs ss _ (HT.out.below (grow_trans B1 U1))).mono ?_
  rintro e w2 ⟨rfl, hb2⟩
  have q0 := ext_cell hb2 y0
  have q1 := ext_cell hb2 y1
  have q2 := ext_cell hb2 y2
  have s0 := ext_cell hb2 r0
  have s1 := ext_cell hb2 r1
  have hv2 := hv.below (grow_trans U1 hb2)
  have hm2 := hm.below (grow_trans U1 hb2)
  have B2 := grow_trans (grow_trans B1 U1) hb2
  clear y0 y1 y2 r0 r1 hv hm U1 B1 hb2
  generalize w1.heap.size = R1 at *
  have U2 : Below w2.heap.size w2 (w2.alloc (.cells #[.bool false, .slice none 0 0] 50)) := grow_alloc (Below.refl _ _) _
  have t0 := ext_cell U2 q0
  have t1 := ext_cell U2 q1
  have t2 := ext_cell U2 q2
  have s30 := ext_cell U2 s0
  have s31 := ext_cell U2 s1
  have hv3 := hv2.below U2
  have hm3 := hm2.below U2
  have B3 := grow_trans B2 U2
  clear s0 s1 hv2 hm2 B2 U2
  go_wp2_with fail
  refine (txnBegun_any _).mono ?_
  rintro e w4 ⟨rfl, hb4⟩
  have s40 := ext_cell hb4 s30
  have s41 := ext_cell hb4 s31
  have n0 : w4.cell? ⟨w2.heap.size, 0, none⟩ = some (.bool false) := ext_cell hb4 (by simp)
  have n1 : w4.cell? ⟨w2.heap.size, 1, none⟩ = some (.slice none 0 0) := ext_cell hb4 (by simp)
  have hv4 : Hid (IsInts w4 va []) := hv3.below hb4
  have hm4 : Hid (IsInts w4 ma []) := hm3.below hb4
  have B4 := grow_trans B3 hb4
  clear s30 s31 hv3 hm3 B3 hb4
  generalize w2.heap.size = R2 at *
  go_wp2_with fail
  refine (sameInts_any [] [] va none vc 0 _ (by simp) hv4.out (fun i hi => absurd hi (by simp))).mono ?_
  rintro e w5 ⟨rfl, hb5⟩
  go_wp2_with fail
  refine (sameInts_any [] [] ma none mc 0 _ (by simp) (hm4.out.below hb5) (fun i hi => absurd hi (by simp))).mono ?_
  rintro e w6 ⟨rfl, hb6⟩
  have B6 := grow_trans (grow_trans B4 hb5) hb6
  clear hb5 hb6 B4
  go_wp2
  go_ret
  exact ⟨by simp, B6⟩

set_option maxRecDepth 100000 in
set_option maxHeartbeats 2000000 in
theorem txnRuns_len (w : World) (ht : IsTx w ra ga sa rs gs ss) (hz : IsInts w za zs) (hzl : zs.length ≤ maxLen) (hn : za = none → zc = 0) (hC : chkTx rs gs ss = 0) (hL : ¬ zs.length = rs.length) :
    Calls Try.prog 7 #[.agg #[.slice ra rs.length rc, .slice ga gs.length gc, .slice sa ss.length sc], .slice za zs.length zc] w fun e w' => e = .returned (.bool true) ∧ Below w.heap.size w w' := by
  have hE : runE rs gs ss zs = 3 := by
    show firstNZ _ = _
    rw [firstNZ, if_pos hC, firstNZ]
    have : countE rs zs = 3 := if_neg hL
    rw [this]; rfl
  have hn0 : ¬ runE rs gs ss zs = 0 := by omega
  have e1 : Hid (runD rs gs ss zs = false) := if_neg hn0
  have e2 : Hid (runV rs gs ss zs = []) := if_neg hn0
  have e3 : Hid (runM rs gs ss zs = []) := if_neg hn0
  have e4 : Hid (runE rs gs ss zs = 3) := hE
  have e5 : Hid (chkTx rs gs ss = 0) := hC
  have hbl : ((zs.length : Int) != (rs.length : Int)) = true := by simp; omega
  clear hE hC hn0 hL
  have HT : Hid (IsTx w ra ga sa rs gs ss) := ht
  have HZ : Hid (IsInts w za zs) := hz
  have HN : Hid (za = none → zc = 0) := hn
  have hzl' : Hid (zs.length ≤ maxLen) := hzl
  clear ht hz hn hzl
  go_enter Try.func7, Try.ntmps7
  go_wp2_with fail
  refine (txnRun_any ra ga sa rc gc sc rs gs ss za zc zs _ (HT.out.below (grow_alloc (Below.refl _ _) _)) (HZ.out.below (grow_alloc (Below.refl _ _) _)) HN.out).mono ?_
  rintro e w1 ⟨va, vc, ma, mc, rfl, hva, hma, hb1⟩
  rw [e1.out, e2.out, e3.out, e4.out]
  rw [e2.out] at hva
  rw [e3.out] at hma
  have hv := hva.ints (Nat.le_refl _)
  have hm := hma.ints (Nat.le_refl _)
  have x0 : w1.cell? ⟨w.heap.size, 0, none⟩ = some (.slice ra rs.length rc) := ext_cell hb1 (by simp)
  have x1 : w1.cell? ⟨w.heap.size, 1, none⟩ = some (.slice ga gs.length gc) := ext_cell hb1 (by simp)
  have x2 : w1.cell? ⟨w.heap.size, 2, none⟩ = some (.slice sa ss.length sc) := ext_cell hb1 (by simp)
  have B1 : Below w.heap.size w w1 := grow_trans (grow_alloc (Below.refl _ _) _) hb1
  have U1 : Below w1.heap.size w1 (w1.alloc (.cells #[.bool false, .slice va 0 vc] 50)) := grow_alloc (Below.refl _ _) _
  have y0 := ext_cell U1 x0
  have y1 := ext_cell U1 x1
  have y2 := ext_cell U1 x2
  have r0 : (w1.alloc (.cells #[.bool false, .slice va 0 vc] 50)).cell? ⟨w1.heap.size, 0, none⟩ = some (.bool false) := by simp
  have r1 : (w1.alloc (.cells #[.bool false, .slice va 0 vc] 50)).cell? ⟨w1.heap.size, 1, none⟩ = some (.slice va 0 vc) := by simp
  clear hva hma hb1 x0 x1 x2
  go_wp2_with fail
  refine (checkTxn_any ra ga sa rc gc sc rs gs ss _ (HT.out.below (grow_trans B1 U1))).mono ?_
  rintro e w2 ⟨rfl, hb2⟩
  have q0 := ext_cell hb2 y0
  have q1 := ext_cell hb2 y1
  have q2 := ext_cell hb2 y2
  have s0 := ext_cell hb2 r0
  have s1 := ext_cell hb2 r1
  have hv2 := hv.below (grow_trans U1 hb2)
  have hm2 := hm.below (grow_trans U1 hb2)
  have B2 := grow_trans (grow_trans B1 U1) hb2
  clear y0 y1 y2 r0 r1 hv hm U1 B1 hb2
  generalize w1.heap.size = R1 at *
  have U2 : Below w2.heap.size w2 (w2.alloc (.cells #[.bool false, .slice none 0 0] 50)) := grow_alloc (Below.refl _ _) _
  have t0 := ext_cell U2 q0
  have t1 := ext_cell U2 q1
  have t2 := ext_cell U2 q2
  rw [e5.out]
  have s30 := ext_cell U2 s0
  have s31 := ext_cell U2 s1
  have hv3 := hv2.below U2
  have hm3 := hm2.below U2
  have B3 := grow_trans B2 U2
  clear s0 s1 hv2 hm2 B2 U2
  go_wp2_with fail
  refine (txnBegun_any _).mono ?_
  rintro e w4 ⟨rfl, hb4⟩
  have s40 := ext_cell hb4 s30
  have s41 := ext_cell hb4 s31
  have n0 : w4.cell? ⟨w2.heap.size, 0, none⟩ = some (.bool false) := ext_cell hb4 (by simp)
  have n1 : w4.cell? ⟨w2.heap.size, 1, none⟩ = some (.slice none 0 0) := ext_cell hb4 (by simp)
  have hv4 : Hid (IsInts w4 va []) := hv3.below hb4
  have hm4 : Hid (IsInts w4 ma []) := hm3.below hb4
  have B4 := grow_trans B3 hb4
  clear s30 s31 hv3 hm3 B3 hb4
  generalize w2.heap.size = R2 at *
  go_wp2_with fail
  refine (sameInts_any [] [] va none vc 0 _ (by simp) hv4.out (fun i hi => absurd hi (by simp))).mono ?_
  rintro e w5 ⟨rfl, hb5⟩
  go_wp2_with fail
  refine (sameInts_any [] [] ma none mc 0 _ (by simp) (hm4.out.below hb5) (fun i hi => absurd hi (by simp))).mono ?_
  rintro e w6 ⟨rfl, hb6⟩
  have B6 := grow_trans (grow_trans B4 hb5) hb6
  clear hb5 hb6 B4
  go_wp2
  go_ret
  exact ⟨by simp, B6⟩

set_option maxRecDepth 100000 in
set_option maxHeartbeats 2000000 in
theorem txnRuns_ok (w : World) (ht : IsTx w ra ga sa rs gs ss) (hz : IsInts w za zs) (hzl : zs.length ≤ maxLen) (hn : za = none → zc = 0) (hE : runE rs gs ss zs = 0) :
    Calls Try.prog 7 #[.agg #[.slice ra rs.length rc, .slice ga gs.length gc, .slice sa ss.length sc], .slice za zs.length zc] w fun e w' => e = .returned (.bool true) ∧ Below w.heap.size w w' := by
  obtain ⟨hC, hL⟩ := runE_zero hE
  obtain ⟨hm, _, hgg, hss⟩ := chk_parts hC
  obtain ⟨h4, hg2, h3, _⟩ := many_small _ _ _ hm
  have e1 : Hid (runD rs gs ss zs = allG zs gs) := if_pos hE
  have e2 : Hid (runV rs gs ss zs = zs) := if_pos hE
  have e3 : Hid (runM rs gs ss zs = madeOf zs gs ss) := if_pos hE
  have e4 : Hid (runE rs gs ss zs = 0) := hE
  have e5 : Hid (chkTx rs gs ss = 0) := hC
  have HL : Hid (zs.length = rs.length) := hL
  have HG : Hid (firstNZ (gs.map (gErr rs.length)) = 0) := hgg
  have HS : Hid (firstNZ (ss.map (sErr rs.length)) = 0) := hss
  have hbl : ((zs.length : Int) != (rs.length : Int)) = false := by simp [hL]
  have h4' : zs.length ≤ 4 := by omega
  clear hE hC hL hm hgg hss h4
  have HT : Hid (IsTx w ra ga sa rs gs ss) := ht
  have HZ : Hid (IsInts w za zs) := hz
  have HN : Hid (za = none → zc = 0) := hn
  have hzl' : Hid (zs.length ≤ maxLen) := hzl
  clear ht hz hn hzl
  go_enter Try.func7, Try.ntmps7
  go_wp2_with fail
  refine (txnRun_any ra ga sa rc gc sc rs gs ss za zc zs _ (HT.out.below (grow_alloc (Below.refl _ _) _)) (HZ.out.below (grow_alloc (Below.refl _ _) _)) HN.out).mono ?_
  rintro e w1 ⟨va, vc, ma, mc, rfl, hva, hma, hb1⟩
  rw [e1.out, e2.out, e3.out, e4.out]
  rw [e2.out] at hva
  rw [e3.out] at hma
  have hv := hva.ints (Nat.le_refl _)
  have hm := hma.ints (Nat.le_refl _)
  have x0 : w1.cell? ⟨w.heap.size, 0, none⟩ = some (.slice ra rs.length rc) := ext_cell hb1 (by simp)
  have x1 : w1.cell? ⟨w.heap.size, 1, none⟩ = some (.slice ga gs.length gc) := ext_cell hb1 (by simp)
  have x2 : w1.cell? ⟨w.heap.size, 2, none⟩ = some (.slice sa ss.length sc) := ext_cell hb1 (by simp)
  have B1 : Below w.heap.size w w1 := grow_trans (grow_alloc (Below.refl _ _) _) hb1
  have U1 : Below w1.heap.size w1 (w1.alloc (.cells #[.bool (allG zs gs), .slice va zs.length vc] 50)) := grow_alloc (Below.refl _ _) _
  have y0 := ext_cell U1 x0
  have y1 := ext_cell U1 x1
  have y2 := ext_cell U1 x2
  have r0 : (w1.alloc (.cells #[.bool (allG zs gs), .slice va zs.length vc] 50)).cell? ⟨w1.heap.size, 0, none⟩ = some (.bool (allG zs gs)) := by simp
  have r1 : (w1.alloc (.cells #[.bool (allG zs gs), .slice va zs.length vc] 50)).cell? ⟨w1.heap.size, 1, none⟩ = some (.slice va zs.length vc) := by simp
  clear hva hma hb1 x0 x1 x2
  go_wp2_with fail
  refine (checkTxn_any ra ga sa rc gc sc rs gs ss _ (HT.out.below (grow_trans B1 U1))).mono ?_
  rintro e w2 ⟨rfl, hb2⟩
  have q0 := ext_cell hb2 y0
  have q1 := ext_cell hb2 y1
  have q2 := ext_cell hb2 y2
  have s0 := ext_cell hb2 r0
  have s1 := ext_cell hb2 r1
  have hv2 := hv.below (grow_trans U1 hb2)
  have hm2 := hm.below (grow_trans U1 hb2)
  have B2 := grow_trans (grow_trans B1 U1) hb2
  clear y0 y1 y2 r0 r1 hv hm U1 B1 hb2
  generalize w1.heap.size = R1 at *
  have U2 : Below w2.heap.size w2 (w2.alloc (.cells #[.bool false, .slice none 0 0] 50)) := grow_alloc (Below.refl _ _) _
  have t0 := ext_cell U2 q0
  have t1 := ext_cell U2 q1
  have t2 := ext_cell U2 q2
  rw [e5.out]
  go_wp2_with fail
  refine (runOf_any ra ga sa rc gc sc rs gs ss za zc zs _ (HT.out.below (grow_trans B2 U2)) (HZ.out.below (grow_trans B2 U2)) HN.out h4' HL.out HG.out HS.out h3 hg2).mono ?_
  rintro e w3 ⟨va', vc', ma', mc', rfl, hv', hm', hb3⟩
  have B23 := grow_trans U2 hb3
  have p0 : w3.cell? ⟨w2.heap.size, 0, none⟩ = some (.bool false) := ext_cell hb3 (by simp)
  have p1 : w3.cell? ⟨w2.heap.size, 1, none⟩ = some (.slice none 0 0) := ext_cell hb3 (by simp)
  have pf : ∀ j, w3.frozen? ⟨w2.heap.size, j, none⟩ = false := fun j => (hb3.frozen (p := ⟨w2.heap.size, j, none⟩) (by simp)).trans (by simp)
  have s30 := ext_cell B23 s0
  have s31 := ext_cell B23 s1
  have hv3 := hv2.below B23
  have hm3 := hm2.below B23
  have hR1 : R1 < w2.heap.size := World.block_lt_of_cell? w2 _ s0
  have j0 : ((w3.setCell ⟨w2.heap.size, 0, none⟩ (.bool (allG zs gs))).setCell ⟨w2.heap.size, 1, none⟩ (.slice va' zs.length vc')).cell? ⟨w2.heap.size, 0, none⟩ = some (.bool (allG zs gs)) := by simp [go_sem, p0]
  have j1 : ((w3.setCell ⟨w2.heap.size, 0, none⟩ (.bool (allG zs gs))).setCell ⟨w2.heap.size, 1, none⟩ (.slice va' zs.length vc')).cell? ⟨w2.heap.size, 1, none⟩ = some (.slice va' zs.length vc') := by simp [go_sem, p1]
  have hne : w2.heap.size ≠ R1 := by omega
  have j2 : ((w3.setCell ⟨w2.heap.size, 0, none⟩ (.bool (allG zs gs))).setCell ⟨w2.heap.size, 1, none⟩ (.slice va' zs.length vc')).cell? ⟨R1, 0, none⟩ = some (.bool (allG zs gs)) := by rw [World.cell?_setCell_far _ _ _ _ hne, World.cell?_setCell_far _ _ _ _ hne]; exact s30
  have j3 : ((w3.setCell ⟨w2.heap.size, 0, none⟩ (.bool (allG zs gs))).setCell ⟨w2.heap.size, 1, none⟩ (.slice va' zs.length vc')).cell? ⟨R1, 1, none⟩ = some (.slice va zs.length vc) := by rw [World.cell?_setCell_far _ _ _ _ hne, World.cell?_setCell_far _ _ _ _ hne]; exact s31
  have hv2' : IsAt 0 w2.heap.size w3 va zs := (at_of_ints hv2).below B23
  have hm2' : IsAt 0 w2.heap.size w3 ma (madeOf zs gs ss) := (at_of_ints hm2).below B23
  have hlo : w2.heap.size < (w2.alloc (.cells #[.bool false, .slice none 0 0] 50)).heap.size := by simp
  have kv : IsInts ((w3.setCell ⟨w2.heap.size, 0, none⟩ (.bool (allG zs gs))).setCell ⟨w2.heap.size, 1, none⟩ (.slice va' zs.length vc')) va zs := ((hv2'.set ⟨w2.heap.size, 0, none⟩ (.bool (allG zs gs)) (.inr (Nat.le_refl _))).set ⟨w2.heap.size, 1, none⟩ (.slice va' zs.length vc') (.inr (Nat.le_refl _))).ints (by simp; exact Nat.le_of_lt (World.block_lt_of_cell? w3 _ p0))
  have km : IsInts ((w3.setCell ⟨w2.heap.size, 0, none⟩ (.bool (allG zs gs))).setCell ⟨w2.heap.size, 1, none⟩ (.slice va' zs.length vc')) ma (madeOf zs gs ss) := ((hm2'.set ⟨w2.heap.size, 0, none⟩ (.bool (allG zs gs)) (.inr (Nat.le_refl _))).set ⟨w2.heap.size, 1, none⟩ (.slice va' zs.length vc') (.inr (Nat.le_refl _))).ints (by simp; exact Nat.le_of_lt (World.block_lt_of_cell? w3 _ p0))
  have kv' : IsInts ((w3.setCell ⟨w2.heap.size, 0, none⟩ (.bool (allG zs gs))).setCell ⟨w2.heap.size, 1, none⟩ (.slice va' zs.length vc')) va' zs := ((hv'.set ⟨w2.heap.size, 0, none⟩ (.bool (allG zs gs)) (.inl hlo)).set ⟨w2.heap.size, 1, none⟩ (.slice va' zs.length vc') (.inl hlo)).ints (by simp)
  have km' : IsInts ((w3.setCell ⟨w2.heap.size, 0, none⟩ (.bool (allG zs gs))).setCell ⟨w2.heap.size, 1, none⟩ (.slice va' zs.length vc')) ma' (madeOf zs gs ss) := ((hm'.set ⟨w2.heap.size, 0, none⟩ (.bool (allG zs gs)) (.inl hlo)).set ⟨w2.heap.size, 1, none⟩ (.slice va' zs.length vc') (.inl hlo)).ints (by simp)
  have B3 : Below w.heap.size w ((w3.setCell ⟨w2.heap.size, 0, none⟩ (.bool (allG zs gs))).setCell ⟨w2.heap.size, 1, none⟩ (.slice va' zs.length vc')) := grow_set (grow_set (grow_trans B2 B23) B2.size _) B2.size _
  have hml : Hid ((madeOf zs gs ss).length ≤ maxLen) := by
    show _ ≤ _
    unfold madeOf
    split
    · simp [allS, maxLen]; omega
    · simp
  clear hv' hm' hb3 B23 s30 s31 hv3 hm3 hv2 hm2 hv2' hm2' B2 U2 q0 q1 q2 s0 s1 hlo t0 t1 t2 hR1
  generalize w2.heap.size = R2 at *
  go_wp2_with fail
  clear p0 p1 pf
  generalize ((w3.setCell ⟨R2, 0, none⟩ (.bool (allG zs gs))).setCell ⟨R2, 1, none⟩ (.slice va' zs.length vc')) = W5 at *
  refine (txnBegun_any _).mono ?_
  rintro e w4 ⟨rfl, hb4⟩
  have s40 := ext_cell hb4 j2
  have s41 := ext_cell hb4 j3
  have n0 := ext_cell hb4 j0
  have n1 := ext_cell hb4 j1
  have hv4 : Hid (IsInts w4 va zs) := kv.below hb4
  have hm4 : Hid (IsInts w4 ma (madeOf zs gs ss)) := km.below hb4
  have hv4' : Hid (IsInts w4 va' zs) := kv'.below hb4
  have hm4' : Hid (IsInts w4 ma' (madeOf zs gs ss)) := km'.below hb4
  have B4 := grow_trans B3 hb4
  clear j0 j1 j2 j3 kv km kv' km' B3 hb4
  go_wp2_with fail
  refine (sameInts_any zs zs va va' vc vc' _ hzl'.out hv4.out hv4'.out).mono ?_
  rintro e w5 ⟨rfl, hb5⟩
  go_wp2_with fail
  refine (sameInts_any (madeOf zs gs ss) (madeOf zs gs ss) ma ma' mc mc' _ hml.out (hm4.out.below hb5) (hm4'.out.below hb5)).mono ?_
  rintro e w6 ⟨rfl, hb6⟩
  have B6 := grow_trans (grow_trans B4 hb5) hb6
  clear hb5 hb6 B4
  go_wp2
  go_ret
  exact ⟨by simp, B6⟩

theorem txnRuns_walk (w : World) (ht : IsTx w ra ga sa rs gs ss) (hz : IsInts w za zs) (hzl : zs.length ≤ maxLen) (hn : za = none → zc = 0) :
    Calls Try.prog 7 #[.agg #[.slice ra rs.length rc, .slice ga gs.length gc, .slice sa ss.length sc], .slice za zs.length zc] w fun e w' => e = .returned (.bool true) ∧ Below w.heap.size w w' := by
  by_cases hC : chkTx rs gs ss = 0
  · by_cases hL : zs.length = rs.length
    · have hE : runE rs gs ss zs = 0 := by
        show firstNZ _ = _
        rw [firstNZ, if_pos hC, firstNZ]
        have : countE rs zs = 0 := if_pos hL
        rw [this]; rfl
      exact txnRuns_ok ra ga sa rc gc sc rs gs ss za zc zs w ht hz hzl hn hE
    · exact txnRuns_len ra ga sa rc gc sc rs gs ss za zc zs w ht hz hzl hn hC hL
  · exact txnRuns_chk ra ga sa rc gc sc rs gs ss za zc zs w ht hz hzl hn hC

set_option maxRecDepth 100000 in
theorem txnRuns_lifted (os : Os) (started : os.Started) (H : Type) (enc : TypeId × Value → H) :
    ReturnsInHanded {} Try.checked os 7 .any (Rows.txnRunsSpec.pre6 enc Try.prog Try.f7 Rows.txnRunsRow.domain false) (Rows.txnRunsSpec.post enc Try.prog Try.f7 false true false false) := by
  refine returnsInHanded_of_change (C := Try.checked) ownK started (by kernel_rfl) Try.func7
    (ChangeSpec.witness6 (enc := enc) (C := Try.checked) false ⟨#[], #[.agg #[.slice none 0 0, .slice none 0 0, .slice none 0 0], .slice none 0 0], []⟩ 8 (by kernel_rfl) (by kernel_rfl) (by kernel_rfl) (by kernel_rfl)) ?_
  intro W base args ds gs0 before hval0 hW hcnd _
  have hval : ∀ (j : Nat) t v, Try.f7.params[j]? = some t → args[j]? = some v → Value.okWide Try.prog W .any base t v := hval0
  have hW' := hW
  obtain ⟨p, q, hA0, hV, rfl, hfz, hnd⟩ := hW
  have hA : DataW.TrodAll enc Try.prog W 0 (fun _ => true) true Try.f7.params.toList args.toList ds p := hA0
  rw [Try.params7] at hA hval
  obtain ⟨v0, vs0, d0, ds0, p0, q0, hargs, rfl, rfl, h0, r0⟩ := trodAll_cons hA
  obtain ⟨v1, vs1, d1, ds1, p1, q1, rfl, rfl, rfl, h1, r1⟩ := trodAll_cons r0
  obtain ⟨rfl, rfl, rfl⟩ := trodAll_nil r1
  obtain rfl : args = #[v0, v1] := by cases args; simp_all
  obtain ⟨rfl, rfl⟩ := trodVars_none hV
  have k0 := h0
  have lt0 : ∀ x ∈ p0, x.block < W.heap.size := by obtain ⟨m, hm⟩ := k0; exact DataW.trod_lt m _ _ _ hm
  have k1 := h1
  have lt1 : ∀ x ∈ p1, x.block < W.heap.size := by obtain ⟨m, hm⟩ := k1; exact DataW.trod_lt m _ _ _ hm
  obtain ⟨ra, ga, sa, rc, gc, sc, rs, gs, ss, rfl, htx⟩ := open_tx (hval 0 40 v0 rfl rfl) h0
  obtain ⟨za, zs, zc, rfl, hzl, hz, hzn⟩ := open_zs (hval 1 24 v1 rfl rfl) h1
  clear hA0 hval0
  refine (txnRuns_walk ra ga sa rc gc sc rs gs ss za zc zs W htx hz hzl hzn).mono fun e W' ⟨he, bel⟩ => ?_
  subst he
  exact ⟨_, rfl, _, _, _, [], _, [], hW', trodAll_mk1 (shut_bool Try.underlying4 _), (trodAll_cons_mk (Below.trod laidOutK (by kernel_rfl) (of_decide_eq_true (by kernel_rfl)) k0 bel lt0) (trodAll_cons_mk (Below.trod laidOutK (by kernel_rfl) (of_decide_eq_true (by kernel_rfl)) k1 bel lt1) trodAll_mk0)), rfl, bel.frame _, fun h => by cases h⟩

theorem txnRuns_over : Rows.txnRunsRow.holds Try.pinned (OpenSpec.ofChange Rows.txnRunsSpec) :=
  OpenClaim.holds_of_wide 7 Try.f7 rfl rfl rfl rfl rfl rfl rfl ⟨rfl, rfl, rfl, rfl, rfl⟩ rfl rfl rfl rfl rfl (by kernel_rfl) Try.func7 (by kernel_rfl)
    (of_decide_eq_true (by kernel_rfl)) (by unfold Func.isWrapper; first | (rw [if_pos (by decide +kernel)]; kernel_rfl) | (rw [if_neg (by decide +kernel)]; exact ⟨rfl, rfl⟩))
    (fun os started H enc _ => txnRuns_lifted os started H enc)

/-- The statement. -/
theorem txnRuns_holds : Rows.TxnRunsSaid := txnRuns_over
#print axioms txnRuns_holds
end Go.Proofs.Ytobhbllohafdhaa
