/-
  The document's own clash and Clashes.
  Conditions: both transactions can be read.
-/
import Derived.Test.YtikolifbljnokaaGreatGraphA
import Derived.WalkKit
import Derived.WalkSpells
import Derived.WalkLawsBesides
import Derived.ProofKit
import Derived.Deep.RegionHeld
import Derived.Deep.RegionHeld3
import Derived.BigQuiet
namespace Go.Proofs.YtikolifbljnokaaGreat
open Go.RowKit

variable (x y : TxA)

theorem rd_is (x : TxA) (k : Nat) (b : Bool) (h : rdX x k = b) : decide ((k : Int) ∈ x.rs) = b := h
theorem wr_is (x : TxA) (k : Nat) (b : Bool) (h : wrX x k = b) : decide ((k : Int) ∈ keysOf x.ss) = b := h

set_option maxRecDepth 100000 in
set_option maxHeartbeats 4000000 in
theorem docClash_any (w : World) (hx : IsX w x) (hy : IsX w y) :
    Calls Tryz.prog 49 #[.agg #[.slice x.ra x.rs.length x.rc, .slice x.ga x.gs.length x.gc, .slice x.sa x.ss.length x.sc], .agg #[.slice y.ra y.rs.length y.rc, .slice y.ga y.gs.length y.gc, .slice y.sa y.ss.length y.sc], .int .i64 1, .int .i64 0] w fun e w' => e = .returned (.bool (clashX x y)) ∧ Below w.heap.size w w' := by
  have HS : Hid (∀ k, clashTo x y (k + 1) = (clashTo x y k || clashAt x y k)) := clashTo_step x y
  have HA : Hid (∀ k, clashAt x y k = ((wrX x k && (rdX y k || wrX y k)) || (wrX y k && rdX x k))) := fun k => rfl
  have HF : Hid (clashX x y = clashTo x y 8) := rfl
  have HD : Hid (∀ k, clashTo x y k = true → k ≤ 8 → clashX x y = true) := fun k h hk => by
    unfold clashX clashTo at *
    rw [List.any_eq_true] at *
    obtain ⟨j, hj, hc⟩ := h
    exact ⟨j, List.mem_range.2 (by have := List.mem_range.1 hj; omega), hc⟩
  have R1 : Hid (∀ k b, rdX x k = b → decide ((k : Int) ∈ x.rs) = b) := rd_is x
  have W1 : Hid (∀ k b, wrX x k = b → decide ((k : Int) ∈ keysOf x.ss) = b) := wr_is x
  have R2 : Hid (∀ k b, rdX y k = b → decide ((k : Int) ∈ y.rs) = b) := rd_is y
  have W2 : Hid (∀ k b, wrX y k = b → decide ((k : Int) ∈ keysOf y.ss) = b) := wr_is y
  have H0 : Hid (clashTo x y 0 = false) := rfl
  generalize clashX x y = CX at *
  generalize hct : clashTo x y = ct at *
  generalize hca : clashAt x y = ca at *
  clear hct hca
  generalize rdX x = rx at *
  generalize wrX x = wx at *
  generalize rdX y = ry at *
  generalize wrX y = wy at *
  obtain ⟨ra, ga, sa, rc, gc, sc, rs, gs, ss⟩ := x
  obtain ⟨ra', ga', sa', rc', gc', sc', rs', gs', ss'⟩ := y
  simp only at R1 W1 R2 W2
  have HX : Hid (IsTx w ra ga sa rs gs ss) := hx.t
  have HY : Hid (IsTx w ra' ga' sa' rs' gs' ss') := hy.t
  clear hx hy
  have g1 : Below w.heap.size w ((w.alloc (.cells #[.slice ra rs.length rc, .slice ga gs.length gc, .slice sa ss.length sc] 38)).alloc (.cells #[.slice ra' rs'.length rc', .slice ga' gs'.length gc', .slice sa' ss'.length sc'] 38)) := grow_alloc (grow_alloc (Below.refl _ _) _) _
  have p0 : ((w.alloc (.cells #[.slice ra rs.length rc, .slice ga gs.length gc, .slice sa ss.length sc] 38)).alloc (.cells #[.slice ra' rs'.length rc', .slice ga' gs'.length gc', .slice sa' ss'.length sc'] 38)).cell? ⟨w.heap.size, 0, none⟩ = some (.slice ra rs.length rc) := by rw [World.cell?_alloc_lt _ _ _ (by simp)]; simp
  have p1 : ((w.alloc (.cells #[.slice ra rs.length rc, .slice ga gs.length gc, .slice sa ss.length sc] 38)).alloc (.cells #[.slice ra' rs'.length rc', .slice ga' gs'.length gc', .slice sa' ss'.length sc'] 38)).cell? ⟨w.heap.size, 1, none⟩ = some (.slice ga gs.length gc) := by rw [World.cell?_alloc_lt _ _ _ (by simp)]; simp
  have p2 : ((w.alloc (.cells #[.slice ra rs.length rc, .slice ga gs.length gc, .slice sa ss.length sc] 38)).alloc (.cells #[.slice ra' rs'.length rc', .slice ga' gs'.length gc', .slice sa' ss'.length sc'] 38)).cell? ⟨w.heap.size, 2, none⟩ = some (.slice sa ss.length sc) := by rw [World.cell?_alloc_lt _ _ _ (by simp)]; simp
  have q0 : ((w.alloc (.cells #[.slice ra rs.length rc, .slice ga gs.length gc, .slice sa ss.length sc] 38)).alloc (.cells #[.slice ra' rs'.length rc', .slice ga' gs'.length gc', .slice sa' ss'.length sc'] 38)).cell? ⟨w.heap.size + 1, 0, none⟩ = some (.slice ra' rs'.length rc') := by simp
  have q1 : ((w.alloc (.cells #[.slice ra rs.length rc, .slice ga gs.length gc, .slice sa ss.length sc] 38)).alloc (.cells #[.slice ra' rs'.length rc', .slice ga' gs'.length gc', .slice sa' ss'.length sc'] 38)).cell? ⟨w.heap.size + 1, 1, none⟩ = some (.slice ga' gs'.length gc') := by simp
  have q2 : ((w.alloc (.cells #[.slice ra rs.length rc, .slice ga gs.length gc, .slice sa ss.length sc] 38)).alloc (.cells #[.slice ra' rs'.length rc', .slice ga' gs'.length gc', .slice sa' ss'.length sc'] 38)).cell? ⟨w.heap.size + 1, 2, none⟩ = some (.slice sa' ss'.length sc') := by simp
  go_enter Tryz.func49, Tryz.ntmps49
  go_wp2
  have G1 : Hid (Below w.heap.size w ((w.alloc (.cells #[.slice ra rs.length rc, .slice ga gs.length gc, .slice sa ss.length sc] 38)).alloc (.cells #[.slice ra' rs'.length rc', .slice ga' gs'.length gc', .slice sa' ss'.length sc'] 38))) := g1
  clear g1
  generalize (w.alloc (.cells #[.slice ra rs.length rc, .slice ga gs.length gc, .slice sa ss.length sc] 38)).alloc (.cells #[.slice ra' rs'.length rc', .slice ga' gs'.length gc', .slice sa' ss'.length sc'] 38) = V at *
  go_loopw [9] (fun i wr => ∃ k : Nat, k ≤ 8 ∧ i = .int .i64 k ∧ Hid (ct k = false) ∧ Hid (Below V.heap.size V wr)) (fun i _ => 8 - (intOf i).toNat)
  case atStart => exact ⟨0, Nat.zero_le _, rfl, H0, Below.refl _ _⟩
  case round =>
    obtain ⟨k, hk, rfl, hC, hB⟩ := hrel
    by_cases hlt : k < 8
    · have p0 := ext_cell hB.out p0
      have p1 := ext_cell hB.out p1
      have p2 := ext_cell hB.out p2
      have q0 := ext_cell hB.out q0
      have q1 := ext_cell hB.out q1
      have q2 := ext_cell hB.out q2
      have HT : Hid (ct (k + 1) = ca k) := by show _ = _; rw [HS.out, hC.out]; rfl
      have HAk := HA.out k
      have hm : ((k : Int) % 1 != 0) = false := by simp
      have BW : Hid (Below w.heap.size w wr) := grow_trans G1.out hB.out
      have HXr : Hid (IsTx wr ra ga sa rs gs ss) := HX.out.below BW.out
      have HYr : Hid (IsTx wr ra' ga' sa' rs' gs' ss') := HY.out.below BW.out
      clear HS HA HF hC BW
      cases hwx : wx k with
      | true =>
        go_wp2_with fail
        refine (writes_any ra ga sa rc gc sc rs gs ss k _ HXr.out).mono ?_
        rintro e V1 ⟨rfl, hw1⟩
        rw [W1.out k _ hwx]
        have b1 : Below wr.heap.size wr V1 := by rw [hw1]; exact grow_alloc (Below.refl _ _) _
        clear hw1
        have p0 := ext_cell b1 p0
        have p1 := ext_cell b1 p1
        have p2 := ext_cell b1 p2
        have q0 := ext_cell b1 q0
        have q1 := ext_cell b1 q1
        have q2 := ext_cell b1 q2
        have HXr : Hid (IsTx V1 ra ga sa rs gs ss) := HXr.out.below b1
        have HYr : Hid (IsTx V1 ra' ga' sa' rs' gs' ss') := HYr.out.below b1
        have hB : Hid (Below V.heap.size V V1) := grow_trans hB.out b1
        clear b1
        cases hry : ry k with
        | true =>
          go_wp2_with fail
          refine (reads_any ra' ga' sa' rc' gc' sc' rs' gs' ss' k _ HYr.out).mono ?_
          rintro e V2 ⟨rfl, hw2⟩
          rw [R2.out k _ hry]
          have b2 : Below V1.heap.size V1 V2 := by rw [hw2]; exact grow_alloc (Below.refl _ _) _
          clear hw2
          have p0 := ext_cell b2 p0
          have p1 := ext_cell b2 p1
          have p2 := ext_cell b2 p2
          have q0 := ext_cell b2 q0
          have q1 := ext_cell b2 q1
          have q2 := ext_cell b2 q2
          have HXr : Hid (IsTx V2 ra ga sa rs gs ss) := HXr.out.below b2
          have HYr : Hid (IsTx V2 ra' ga' sa' rs' gs' ss') := HYr.out.below b2
          have hB : Hid (Below V.heap.size V V2) := grow_trans hB.out b2
          clear b2
          have HR : Hid (CX = true) := HD.out (k + 1) (by rw [HT.out, HAk]; simp [hwx, hry]) (by omega)
          have RB : Hid (Below w.heap.size w V2) := grow_trans G1.out hB.out
          clear p0 p1 p2 q0 q1 q2 HAk HT HXr HYr
          go_wp2
          go_ret
          exact ⟨by rw [HR.out]; rfl, RB.out⟩
        | false =>
          go_wp2_with fail
          refine (reads_any ra' ga' sa' rc' gc' sc' rs' gs' ss' k _ HYr.out).mono ?_
          rintro e V3 ⟨rfl, hw3⟩
          rw [R2.out k _ hry]
          have b3 : Below V1.heap.size V1 V3 := by rw [hw3]; exact grow_alloc (Below.refl _ _) _
          clear hw3
          have p0 := ext_cell b3 p0
          have p1 := ext_cell b3 p1
          have p2 := ext_cell b3 p2
          have q0 := ext_cell b3 q0
          have q1 := ext_cell b3 q1
          have q2 := ext_cell b3 q2
          have HXr : Hid (IsTx V3 ra ga sa rs gs ss) := HXr.out.below b3
          have HYr : Hid (IsTx V3 ra' ga' sa' rs' gs' ss') := HYr.out.below b3
          have hB : Hid (Below V.heap.size V V3) := grow_trans hB.out b3
          clear b3
          cases hwy : wy k with
          | true =>
            go_wp2_with fail
            refine (writes_any ra' ga' sa' rc' gc' sc' rs' gs' ss' k _ HYr.out).mono ?_
            rintro e V4 ⟨rfl, hw4⟩
            rw [W2.out k _ hwy]
            have b4 : Below V3.heap.size V3 V4 := by rw [hw4]; exact grow_alloc (Below.refl _ _) _
            clear hw4
            have p0 := ext_cell b4 p0
            have p1 := ext_cell b4 p1
            have p2 := ext_cell b4 p2
            have q0 := ext_cell b4 q0
            have q1 := ext_cell b4 q1
            have q2 := ext_cell b4 q2
            have HXr : Hid (IsTx V4 ra ga sa rs gs ss) := HXr.out.below b4
            have HYr : Hid (IsTx V4 ra' ga' sa' rs' gs' ss') := HYr.out.below b4
            have hB : Hid (Below V.heap.size V V4) := grow_trans hB.out b4
            clear b4
            have HR : Hid (CX = true) := HD.out (k + 1) (by rw [HT.out, HAk]; simp [hwx, hry, hwy]) (by omega)
            have RB : Hid (Below w.heap.size w V4) := grow_trans G1.out hB.out
            clear p0 p1 p2 q0 q1 q2 HAk HT HXr HYr
            go_wp2
            go_ret
            exact ⟨by rw [HR.out]; rfl, RB.out⟩
          | false =>
            go_wp2_with fail
            refine (writes_any ra' ga' sa' rc' gc' sc' rs' gs' ss' k _ HYr.out).mono ?_
            rintro e V5 ⟨rfl, hw5⟩
            rw [W2.out k _ hwy]
            have b5 : Below V3.heap.size V3 V5 := by rw [hw5]; exact grow_alloc (Below.refl _ _) _
            clear hw5
            have p0 := ext_cell b5 p0
            have p1 := ext_cell b5 p1
            have p2 := ext_cell b5 p2
            have q0 := ext_cell b5 q0
            have q1 := ext_cell b5 q1
            have q2 := ext_cell b5 q2
            have HXr : Hid (IsTx V5 ra ga sa rs gs ss) := HXr.out.below b5
            have HYr : Hid (IsTx V5 ra' ga' sa' rs' gs' ss') := HYr.out.below b5
            have hB : Hid (Below V.heap.size V V5) := grow_trans hB.out b5
            clear b5
            go_wp2_with fail
            refine (writes_any ra' ga' sa' rc' gc' sc' rs' gs' ss' k _ HYr.out).mono ?_
            rintro e V6 ⟨rfl, hw6⟩
            rw [W2.out k _ hwy]
            have b6 : Below V5.heap.size V5 V6 := by rw [hw6]; exact grow_alloc (Below.refl _ _) _
            clear hw6
            have p0 := ext_cell b6 p0
            have p1 := ext_cell b6 p1
            have p2 := ext_cell b6 p2
            have q0 := ext_cell b6 q0
            have q1 := ext_cell b6 q1
            have q2 := ext_cell b6 q2
            have HXr : Hid (IsTx V6 ra ga sa rs gs ss) := HXr.out.below b6
            have HYr : Hid (IsTx V6 ra' ga' sa' rs' gs' ss') := HYr.out.below b6
            have hB : Hid (Below V.heap.size V V6) := grow_trans hB.out b6
            clear b6
            have HR : Hid (ct (k + 1) = false) := by show _ = _; rw [HT.out, HAk]; simp [hwx, hry, hwy]
            clear p0 p1 p2 q0 q1 q2 HAk HT HXr HYr
            go_wp2
            go_roundw
            case rel => exact ⟨k + 1, by omega, by go_num, HR, hB⟩
            case measure => simp [intOf]; omega
      | false =>
        go_wp2_with fail
        refine (writes_any ra ga sa rc gc sc rs gs ss k _ HXr.out).mono ?_
        rintro e V7 ⟨rfl, hw7⟩
        rw [W1.out k _ hwx]
        have b7 : Below wr.heap.size wr V7 := by rw [hw7]; exact grow_alloc (Below.refl _ _) _
        clear hw7
        have p0 := ext_cell b7 p0
        have p1 := ext_cell b7 p1
        have p2 := ext_cell b7 p2
        have q0 := ext_cell b7 q0
        have q1 := ext_cell b7 q1
        have q2 := ext_cell b7 q2
        have HXr : Hid (IsTx V7 ra ga sa rs gs ss) := HXr.out.below b7
        have HYr : Hid (IsTx V7 ra' ga' sa' rs' gs' ss') := HYr.out.below b7
        have hB : Hid (Below V.heap.size V V7) := grow_trans hB.out b7
        clear b7
        cases hwy : wy k with
        | true =>
          go_wp2_with fail
          refine (writes_any ra' ga' sa' rc' gc' sc' rs' gs' ss' k _ HYr.out).mono ?_
          rintro e V8 ⟨rfl, hw8⟩
          rw [W2.out k _ hwy]
          have b8 : Below V7.heap.size V7 V8 := by rw [hw8]; exact grow_alloc (Below.refl _ _) _
          clear hw8
          have p0 := ext_cell b8 p0
          have p1 := ext_cell b8 p1
          have p2 := ext_cell b8 p2
          have q0 := ext_cell b8 q0
          have q1 := ext_cell b8 q1
          have q2 := ext_cell b8 q2
          have HXr : Hid (IsTx V8 ra ga sa rs gs ss) := HXr.out.below b8
          have HYr : Hid (IsTx V8 ra' ga' sa' rs' gs' ss') := HYr.out.below b8
          have hB : Hid (Below V.heap.size V V8) := grow_trans hB.out b8
          clear b8
          cases hrx : rx k with
          | true =>
            go_wp2_with fail
            refine (reads_any ra ga sa rc gc sc rs gs ss k _ HXr.out).mono ?_
            rintro e V9 ⟨rfl, hw9⟩
            rw [R1.out k _ hrx]
            have b9 : Below V8.heap.size V8 V9 := by rw [hw9]; exact grow_alloc (Below.refl _ _) _
            clear hw9
            have p0 := ext_cell b9 p0
            have p1 := ext_cell b9 p1
            have p2 := ext_cell b9 p2
            have q0 := ext_cell b9 q0
            have q1 := ext_cell b9 q1
            have q2 := ext_cell b9 q2
            have HXr : Hid (IsTx V9 ra ga sa rs gs ss) := HXr.out.below b9
            have HYr : Hid (IsTx V9 ra' ga' sa' rs' gs' ss') := HYr.out.below b9
            have hB : Hid (Below V.heap.size V V9) := grow_trans hB.out b9
            clear b9
            have HR : Hid (CX = true) := HD.out (k + 1) (by rw [HT.out, HAk]; simp [hwx, hwy, hrx]) (by omega)
            have RB : Hid (Below w.heap.size w V9) := grow_trans G1.out hB.out
            clear p0 p1 p2 q0 q1 q2 HAk HT HXr HYr
            go_wp2
            go_ret
            exact ⟨by rw [HR.out]; rfl, RB.out⟩
          | false =>
            go_wp2_with fail
            refine (reads_any ra ga sa rc gc sc rs gs ss k _ HXr.out).mono ?_
            rintro e V10 ⟨rfl, hw10⟩
            rw [R1.out k _ hrx]
            have b10 : Below V8.heap.size V8 V10 := by rw [hw10]; exact grow_alloc (Below.refl _ _) _
            clear hw10
            have p0 := ext_cell b10 p0
            have p1 := ext_cell b10 p1
            have p2 := ext_cell b10 p2
            have q0 := ext_cell b10 q0
            have q1 := ext_cell b10 q1
            have q2 := ext_cell b10 q2
            have HXr : Hid (IsTx V10 ra ga sa rs gs ss) := HXr.out.below b10
            have HYr : Hid (IsTx V10 ra' ga' sa' rs' gs' ss') := HYr.out.below b10
            have hB : Hid (Below V.heap.size V V10) := grow_trans hB.out b10
            clear b10
            have HR : Hid (ct (k + 1) = false) := by show _ = _; rw [HT.out, HAk]; simp [hwx, hwy, hrx]
            clear p0 p1 p2 q0 q1 q2 HAk HT HXr HYr
            go_wp2
            go_roundw
            case rel => exact ⟨k + 1, by omega, by go_num, HR, hB⟩
            case measure => simp [intOf]; omega
        | false =>
          go_wp2_with fail
          refine (writes_any ra' ga' sa' rc' gc' sc' rs' gs' ss' k _ HYr.out).mono ?_
          rintro e V11 ⟨rfl, hw11⟩
          rw [W2.out k _ hwy]
          have b11 : Below V7.heap.size V7 V11 := by rw [hw11]; exact grow_alloc (Below.refl _ _) _
          clear hw11
          have p0 := ext_cell b11 p0
          have p1 := ext_cell b11 p1
          have p2 := ext_cell b11 p2
          have q0 := ext_cell b11 q0
          have q1 := ext_cell b11 q1
          have q2 := ext_cell b11 q2
          have HXr : Hid (IsTx V11 ra ga sa rs gs ss) := HXr.out.below b11
          have HYr : Hid (IsTx V11 ra' ga' sa' rs' gs' ss') := HYr.out.below b11
          have hB : Hid (Below V.heap.size V V11) := grow_trans hB.out b11
          clear b11
          have HR : Hid (ct (k + 1) = false) := by show _ = _; rw [HT.out, HAk]; simp [hwx, hwy]
          clear p0 p1 p2 q0 q1 q2 HAk HT HXr HYr
          go_wp2
          go_roundw
          case rel => exact ⟨k + 1, by omega, by go_num, HR, hB⟩
          case measure => simp [intOf]; omega
    · have hkk : k = 8 := by omega
      have HR : Hid (CX = false) := by
        have h := hC.out
        rw [hkk] at h
        exact HF.out.trans h
      have RB : Hid (Below w.heap.size w wr) := grow_trans G1.out hB.out
      clear p0 p1 p2 q0 q1 q2 HS HA HF hC
      go_wp2
      go_ret
      exact ⟨by rw [HR.out]; rfl, RB.out⟩

set_option maxRecDepth 100000 in
set_option maxHeartbeats 1000000 in
theorem clashes_any (w : World) (hx : IsX w x) (hy : IsX w y) :
    Calls Tryz.prog 32 #[.agg #[.slice x.ra x.rs.length x.rc, .slice x.ga x.gs.length x.gc, .slice x.sa x.ss.length x.sc], .agg #[.slice y.ra y.rs.length y.rc, .slice y.ga y.gs.length y.gc, .slice y.sa y.ss.length y.sc]] w fun e w' => e = .returned (.bool (clashX x y)) ∧ Below w.heap.size w w' := by
  have HC : Hid (∀ w, IsX w x → IsX w y → Calls Tryz.prog 49 #[.agg #[.slice x.ra x.rs.length x.rc, .slice x.ga x.gs.length x.gc, .slice x.sa x.ss.length x.sc], .agg #[.slice y.ra y.rs.length y.rc, .slice y.ga y.gs.length y.gc, .slice y.sa y.ss.length y.sc], .int .i64 1, .int .i64 0] w fun e w' => e = .returned (.bool (clashX x y)) ∧ Below w.heap.size w w') := docClash_any x y
  have HX : Hid (IsX w x) := hx
  have HY : Hid (IsX w y) := hy
  clear hx hy
  generalize clashX x y = cx at *
  obtain ⟨ra, ga, sa, rc, gc, sc, rs, gs, ss⟩ := x
  obtain ⟨ra', ga', sa', rc', gc', sc', rs', gs', ss'⟩ := y
  simp only at HC ⊢
  have g1 : Below w.heap.size w ((w.alloc (.cells #[.slice ra rs.length rc, .slice ga gs.length gc, .slice sa ss.length sc] 38)).alloc (.cells #[.slice ra' rs'.length rc', .slice ga' gs'.length gc', .slice sa' ss'.length sc'] 38)) := grow_alloc (grow_alloc (Below.refl _ _) _) _
  go_enter Tryz.func32, Tryz.ntmps32
  go_wp2_with fail
  refine (HC.out _ (HX.out.below g1) (HY.out.below g1)).mono ?_
  rintro e w1 ⟨rfl, hb⟩
  have B : Hid (Below w.heap.size w w1) := grow_trans g1 hb
  clear hb g1
  go_wp2
  go_ret
  exact ⟨rfl, B.out⟩
end Go.Proofs.YtikolifbljnokaaGreat
