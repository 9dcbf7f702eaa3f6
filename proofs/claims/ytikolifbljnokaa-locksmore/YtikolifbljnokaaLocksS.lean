/-
  The statements' own begun examples of locks (locksBegun).
  Conditions: none.
-/
import Derived.Test.YtikolifbljnokaaLocksR
import Derived.Test.YtikolifbljnokaaGraphZ
import Derived.OwnWalk
import Derived.Laws.OwnMore
import Derived.WalkKit
import Derived.WalkSpells
import Derived.WalkLawsBesides
import Derived.ProofKit
import Derived.Deep.RegionHeld3
import Derived.BigQuiet
namespace Go.Proofs.Ytikolifbljnokaa
open Go.RowKit

theorem litInts1 (w : World) (z0 : Int) (n : Nat) (hn : n = w.heap.size) : IsInts (w.alloc (.cells #[.int .i64 z0] 3)) (some ⟨n, 0, none⟩) [z0] := fun i hi => by
  subst hn
  match i, hi with
  | 0, _ => exact ⟨w.heap.size, 0, rfl, by simp, at_new _ _ 3 _ 0 _ rfl rfl⟩
theorem litInts2 (w : World) (z0 z1 : Int) (n : Nat) (hn : n = w.heap.size) : IsInts (w.alloc (.cells #[.int .i64 z0, .int .i64 z1] 3)) (some ⟨n, 0, none⟩) [z0, z1] := fun i hi => by
  subst hn
  match i, hi with
  | 0, _ => exact ⟨w.heap.size, 0, rfl, by simp, at_new _ _ 3 _ 0 _ rfl rfl⟩
  | 1, _ => exact ⟨w.heap.size, 0, rfl, by simp, at_new _ _ 3 _ 1 _ rfl rfl⟩
theorem litInts3 (w : World) (z0 z1 z2 : Int) (n : Nat) (hn : n = w.heap.size) : IsInts (w.alloc (.cells #[.int .i64 z0, .int .i64 z1, .int .i64 z2] 3)) (some ⟨n, 0, none⟩) [z0, z1, z2] := fun i hi => by
  subst hn
  match i, hi with
  | 0, _ => exact ⟨w.heap.size, 0, rfl, by simp, at_new _ _ 3 _ 0 _ rfl rfl⟩
  | 1, _ => exact ⟨w.heap.size, 0, rfl, by simp, at_new _ _ 3 _ 1 _ rfl rfl⟩
  | 2, _ => exact ⟨w.heap.size, 0, rfl, by simp, at_new _ _ 3 _ 2 _ rfl rfl⟩
theorem litInts8 (w : World) (z0 z1 z2 z3 z4 z5 z6 z7 : Int) (n : Nat) (hn : n = w.heap.size) : IsInts (w.alloc (.cells #[.int .i64 z0, .int .i64 z1, .int .i64 z2, .int .i64 z3, .int .i64 z4, .int .i64 z5, .int .i64 z6, .int .i64 z7] 3)) (some ⟨n, 0, none⟩) [z0, z1, z2, z3, z4, z5, z6, z7] := fun i hi => by
  subst hn
  match i, hi with
  | 0, _ => exact ⟨w.heap.size, 0, rfl, by simp, at_new _ _ 3 _ 0 _ rfl rfl⟩
  | 1, _ => exact ⟨w.heap.size, 0, rfl, by simp, at_new _ _ 3 _ 1 _ rfl rfl⟩
  | 2, _ => exact ⟨w.heap.size, 0, rfl, by simp, at_new _ _ 3 _ 2 _ rfl rfl⟩
  | 3, _ => exact ⟨w.heap.size, 0, rfl, by simp, at_new _ _ 3 _ 3 _ rfl rfl⟩
  | 4, _ => exact ⟨w.heap.size, 0, rfl, by simp, at_new _ _ 3 _ 4 _ rfl rfl⟩
  | 5, _ => exact ⟨w.heap.size, 0, rfl, by simp, at_new _ _ 3 _ 5 _ rfl rfl⟩
  | 6, _ => exact ⟨w.heap.size, 0, rfl, by simp, at_new _ _ 3 _ 6 _ rfl rfl⟩
  | 7, _ => exact ⟨w.heap.size, 0, rfl, by simp, at_new _ _ 3 _ 7 _ rfl rfl⟩

theorem hasX_core {x y : TxA} (h : x.core = y.core) (k : Nat) : hasX x k = hasX y k ∧ wrX x k = wrX y k := by
  obtain ⟨h1, _, h3⟩ := core_parts h
  unfold hasX rdX wrX
  rw [h1, h3]
  exact ⟨rfl, rfl⟩
theorem queueK_core {l m : List TxA} (h : l.map TxA.core = m.map TxA.core) (done : List Bool) (key : Nat) : ∀ n, queueK l done key n = queueK m done key n
  | 0 => rfl
  | n + 1 => by
    obtain ⟨h1, h2⟩ := hasX_core (x := gX l n) (y := gX m n) (core_at h n) key
    rw [queueK, queueK, queueK_core h done key n]
    unfold qAdd
    rw [h1, h2]
theorem freeTo_core {l m : List TxA} (h : l.map TxA.core = m.map TxA.core) (done : List Bool) (n k : Nat) : freeTo l done n k = freeTo m done n k := by
  unfold freeTo
  congr 1
  funext j
  rw [clashX_core (x := gX l j) (y := gX l n) (x' := gX m j) (y' := gX m n) (core_at h j) (core_at h n)]
theorem readyX_core {l m : List TxA} (h : l.map TxA.core = m.map TxA.core) (done : List Bool) (n : Nat) : readyX l done n = readyX m done n := by
  unfold readyX
  rw [freeTo_core h]
theorem rdE_core {l m : List TxA} (h : l.map TxA.core = m.map TxA.core) (done : List Bool) : rdE l done = rdE m done := by
  unfold rdE dE
  rw [chkL_core h, len_core h]
theorem rdL_core {l m : List TxA} (h : l.map TxA.core = m.map TxA.core) (done : List Bool) : rdL l done = rdL m done := by
  unfold rdL readyL readyTo
  rw [rdE_core h, len_core h]
  have e : readyX l done = readyX m done := by
    funext n
    exact readyX_core h done n
  rw [e]
theorem quE_core {l m : List TxA} (h : l.map TxA.core = m.map TxA.core) (done : List Bool) (key : Int) : quE l done key = quE m done key := by
  unfold quE dE
  rw [chkL_core h, len_core h]
theorem quL_core {l m : List TxA} (h : l.map TxA.core = m.map TxA.core) (done : List Bool) (key : Int) : quL l done key = quL m done key := by
  unfold quL quN qOf
  rw [quE_core h, len_core h, queueK_core h]

def four : List TxA := [mkX (payC 1), mkX noteC, mkX (markC 1), mkX noteC]
def f4 : List Bool := [false, false, false, false]
def t4 : List Bool := [true, false, false, false]
theorem lbE1 : quE four f4 1 = 0 := by decide
theorem lbL1 : nI (quL four f4 1) = [0, 1, 3] := by decide
theorem lbE2 : rdE four f4 = 0 := by decide
theorem lbL2 : nI (rdL four f4) = [0, 2] := by decide
theorem lbE3 : rdE four t4 = 0 := by decide
theorem lbL3 : nI (rdL four t4) = [1, 2] := by decide
theorem lbE4 : rdE four [] = 1 := by decide
theorem lbL4 : nI (rdL four []) = [] := by decide
theorem made4 : (madeCells (Value.bool false).cells (4 * 1)).toList = f4.map Value.bool := by kernel_rfl

set_option maxRecDepth 100000 in
set_option maxHeartbeats 4000000 in
theorem locksBegun_any (w : World) : Calls Try.prog 30 #[] w fun e w' => e = .returned (.bool true) ∧ Below w.heap.size w w' := by
  obtain ⟨i0, hi, hz0, hz1, hz2⟩ := info_parts Try.info4
  have CQ : Hid (∀ (A : Option Addr) (c : Nat) (l : List TxA) (ba : Option Addr) (bc : Nat) (w : World), IsTxs w A l → l.map TxA.core = four.map TxA.core → IsBools w ba f4 → Calls Try.prog 25 #[.slice A 4 c, .slice ba 4 bc, .int .i64 1] w fun e w' => ∃ a c, e = .returned (.tuple #[.slice a 3 c, .int .i64 0]) ∧ Hid (IsInts w' a [0, 1, 3]) ∧ Below w.heap.size w w') := fun A c l ba bc w hl hc hb => by
    have h := queue_any A c l ba bc f4 1 w hl hb
    rw [quE_core hc, quL_core hc, lbE1, lbL1, len_core hc] at h
    exact h
  have CR : Hid (∀ (A : Option Addr) (c : Nat) (l : List TxA) (ba : Option Addr) (bc : Nat) (done : List Bool) (E : Int) (L : List Int) (w : World), IsTxs w A l → l.map TxA.core = four.map TxA.core → IsBools w ba done → rdE four done = E → nI (rdL four done) = L → Calls Try.prog 26 #[.slice A 4 c, .slice ba done.length bc] w fun e w' => ∃ a c, e = .returned (.tuple #[.slice a L.length c, .int .i64 E]) ∧ Hid (IsInts w' a L) ∧ Below w.heap.size w w') := fun A c l ba bc done E L w hl hc hb h1 h2 => by
    have h := ready_any A c l ba bc done w hl hb
    rw [rdE_core hc, rdL_core hc, h1, h2, len_core hc] at h
    exact h
  have SI : Hid (∀ (zs : List Int) (a a' : Option Addr) (c c' : Nat) (w : World), zs.length ≤ 100 → IsInts w a zs → IsInts w a' zs → Calls Try.prog 23 #[.slice a zs.length c, .slice a' zs.length c'] w fun e w' => e = .returned (.bool true) ∧ Below w.heap.size w w') := fun zs a a' c c' w hl h1 h2 => by
    refine (sameInts_any zs zs a a' c c' w (by unfold maxLen; omega) h1 h2).mono ?_
    rintro e w' ⟨rfl, hb⟩
    exact ⟨by simp, hb⟩
  go_enter Try.func30, Try.ntmps30
  go_wp2_with fail
  refine (pay_x 1 _).mono ?_
  rintro e w1 ⟨x1, rfl, hx1, cx1, bw1⟩
  go_wp2_with fail
  refine (note_x _).mono ?_
  rintro e w2 ⟨x2, rfl, hx2, cx2, bw2⟩
  go_wp2_with fail
  refine (mark_x 1 _).mono ?_
  rintro e w3 ⟨x3, rfl, hx3, cx3, bw3⟩
  go_wp2_with fail
  refine (note_x _).mono ?_
  rintro e w4 ⟨x4, rfl, hx4, cx4, bw4⟩
  have hT : Hid (IsTxs (w4.alloc (.cells #[.slice x1.ra x1.rs.length x1.rc, .slice x1.ga x1.gs.length x1.gc, .slice x1.sa x1.ss.length x1.sc, .slice x2.ra x2.rs.length x2.rc, .slice x2.ga x2.gs.length x2.gc, .slice x2.sa x2.ss.length x2.sc, .slice x3.ra x3.rs.length x3.rc, .slice x3.ga x3.gs.length x3.gc, .slice x3.sa x3.ss.length x3.sc, .slice x4.ra x4.rs.length x4.rc, .slice x4.ga x4.gs.length x4.gc, .slice x4.sa x4.ss.length x4.sc] 26)) (some ⟨w4.heap.size, 0, none⟩) [x1, x2, x3, x4]) := isTxs_4 w4 x1 x2 x3 x4 _ rfl (hx1.out.below (grow_trans bw2 (grow_trans bw3 bw4))) (hx2.out.below (grow_trans bw3 bw4)) (hx3.out.below bw4) hx4.out
  have hC : Hid ([x1, x2, x3, x4].map TxA.core = four.map TxA.core) := by
    show [x1.core, x2.core, x3.core, x4.core] = _
    rw [cx1.out, cx2.out, cx3.out, cx4.out]
    rfl
  have B4 : Hid (Below w.heap.size w (w4.alloc (.cells #[.slice x1.ra x1.rs.length x1.rc, .slice x1.ga x1.gs.length x1.gc, .slice x1.sa x1.ss.length x1.sc, .slice x2.ra x2.rs.length x2.rc, .slice x2.ga x2.gs.length x2.gc, .slice x2.sa x2.ss.length x2.sc, .slice x3.ra x3.rs.length x3.rc, .slice x3.ga x3.gs.length x3.gc, .slice x3.sa x3.ss.length x3.sc, .slice x4.ra x4.rs.length x4.rc, .slice x4.ga x4.gs.length x4.gc, .slice x4.sa x4.ss.length x4.sc] 26))) := grow_alloc (grow_trans bw1 (grow_trans bw2 (grow_trans bw3 bw4))) _
  clear bw1 bw2 bw3 bw4 hx1 hx2 hx3 hx4 cx1 cx2 cx3 cx4
  go_upto_region 2 with fail
  generalize hU : w4.alloc (.cells #[.slice x1.ra x1.rs.length x1.rc, .slice x1.ga x1.gs.length x1.gc, .slice x1.sa x1.ss.length x1.sc, .slice x2.ra x2.rs.length x2.rc, .slice x2.ga x2.gs.length x2.gc, .slice x2.sa x2.ss.length x2.sc, .slice x3.ra x3.rs.length x3.rc, .slice x3.ga x3.gs.length x3.gc, .slice x3.sa x3.ss.length x3.sc, .slice x4.ra x4.rs.length x4.rc, .slice x4.ga x4.gs.length x4.gc, .slice x4.sa x4.ss.length x4.sc] 26) = U at *
  generalize w4.heap.size = T at *
  clear hU
  generalize hxs : [x1, x2, x3, x4] = xs at *
  clear hxs
  go_wp2_with (first | (at_make; refine wpList_make_full _ rfl _ _ 55 rfl U.heap.size 4 i0 (.bool false) 1 Try.underlying55 hi hz0 hz1 .i64 .i64 _ _ 4 rfl rfl rfl rfl (by rw [hz2]; omega) (by unfold maxLen; omega) (by simp) ?_; intro u1 hown1 hgrow1) | fail)
  rw [made4] at hown1
  have hb1 : Below U.heap.size U u1 := Below.grown (Below.refl _ U) hgrow1 (by omega) (fun j hj => by cases hj)
  have hB1 : Hid (IsBools u1 (some ⟨U.heap.size, 0, none⟩) f4) := bools_of_owns hown1
  have hT1 : Hid (IsTxs u1 (some ⟨T, 0, none⟩) xs) := hT.out.below hb1
  have B5 : Hid (Below w.heap.size w u1) := grow_trans B4.out hb1
  clear hown1 hgrow1 hb1 hT B4
  go_wp2_with fail
  refine (CQ.out (some ⟨T, 0, none⟩) 4 xs (some ⟨U.heap.size, 0, none⟩) 4 _ hT1.out hC.out hB1.out).mono ?_
  rintro e u2 ⟨qa, qc, rfl, hQ, bu2⟩
  have hT2 : Hid (IsTxs u2 (some ⟨T, 0, none⟩) xs) := hT1.out.below bu2
  have B6 : Hid (Below w.heap.size w u2) := grow_trans B5.out bu2
  clear bu2 hT1 B5 hB1 CQ
  go_wp2_with (first | (at_make; refine wpList_make_full _ rfl _ _ 55 rfl u2.heap.size 4 i0 (.bool false) 1 Try.underlying55 hi hz0 hz1 .i64 .i64 _ _ 4 rfl rfl rfl rfl (by rw [hz2]; omega) (by unfold maxLen; omega) (by simp) ?_; intro u3 hown1 hgrow1) | fail)
  rw [made4] at hown1
  have hb1 : Below u2.heap.size u2 u3 := Below.grown (Below.refl _ u2) hgrow1 (by omega) (fun j hj => by cases hj)
  have hB1 : Hid (IsBools u3 (some ⟨u2.heap.size, 0, none⟩) f4) := bools_of_owns hown1
  have hT3 : Hid (IsTxs u3 (some ⟨T, 0, none⟩) xs) := hT2.out.below hb1
  have hQ3 : Hid (IsInts u3 qa [0, 1, 3]) := hQ.out.below hb1
  have B7 : Hid (Below w.heap.size w u3) := grow_trans B6.out hb1
  clear hown1 hgrow1 hb1 hT2 B6 hQ
  go_wp2_with fail
  refine (CR.out (some ⟨T, 0, none⟩) 4 xs (some ⟨u2.heap.size, 0, none⟩) 4 f4 _ _ _ hT3.out hC.out hB1.out lbE2 lbL2).mono ?_
  rintro e u4 ⟨ra, rc, rfl, hR, bu4⟩
  have hT4 : Hid (IsTxs u4 (some ⟨T, 0, none⟩) xs) := hT3.out.below bu4
  have hQ4 : Hid (IsInts u4 qa [0, 1, 3]) := hQ3.out.below bu4
  have B8 : Hid (Below w.heap.size w u4) := grow_trans B7.out bu4
  clear bu4 hT3 B7 hB1 hQ3
  have gA : Below u4.heap.size u4 (u4.alloc (.cells #[.bool true, .bool false, .bool false, .bool false] 4)) := grow_alloc (Below.refl _ _) _
  have hBt : Hid (IsBools (u4.alloc (.cells #[.bool true, .bool false, .bool false, .bool false] 4)) (some ⟨u4.heap.size, 0, none⟩) t4) := fun i hi => by
    match i, hi with
    | 0, _ => exact ⟨u4.heap.size, 0, rfl, by simp, at_new _ _ 4 _ 0 _ rfl rfl⟩
    | 1, _ => exact ⟨u4.heap.size, 0, rfl, by simp, at_new _ _ 4 _ 1 _ rfl rfl⟩
    | 2, _ => exact ⟨u4.heap.size, 0, rfl, by simp, at_new _ _ 4 _ 2 _ rfl rfl⟩
    | 3, _ => exact ⟨u4.heap.size, 0, rfl, by simp, at_new _ _ 4 _ 3 _ rfl rfl⟩
  have hT5 : Hid (IsTxs (u4.alloc (.cells #[.bool true, .bool false, .bool false, .bool false] 4)) (some ⟨T, 0, none⟩) xs) := hT4.out.below gA
  have hQ5 : Hid (IsInts (u4.alloc (.cells #[.bool true, .bool false, .bool false, .bool false] 4)) qa [0, 1, 3]) := hQ4.out.below gA
  have hR5 : Hid (IsInts (u4.alloc (.cells #[.bool true, .bool false, .bool false, .bool false] 4)) ra [0, 2]) := hR.out.below gA
  have B9 : Hid (Below w.heap.size w (u4.alloc (.cells #[.bool true, .bool false, .bool false, .bool false] 4))) := grow_trans B8.out gA
  clear gA hT4 hQ4 hR B8
  go_wp2_with fail
  refine (CR.out (some ⟨T, 0, none⟩) 4 xs (some ⟨u4.heap.size, 0, none⟩) 4 t4 _ _ _ hT5.out hC.out hBt.out lbE3 lbL3).mono ?_
  rintro e u5 ⟨sa, sc, rfl, hS, bu5⟩
  have hT6 : Hid (IsTxs u5 (some ⟨T, 0, none⟩) xs) := hT5.out.below bu5
  have hQ6 : Hid (IsInts u5 qa [0, 1, 3]) := hQ5.out.below bu5
  have hR6 : Hid (IsInts u5 ra [0, 2]) := hR5.out.below bu5
  have B10 : Hid (Below w.heap.size w u5) := grow_trans B9.out bu5
  clear bu5 hT5 hQ5 hR5 B9 hBt
  go_wp2_with fail
  refine (CR.out (some ⟨T, 0, none⟩) 4 xs none 0 [] _ _ _ hT6.out hC.out (fun i hi => absurd hi (by simp)) lbE4 lbL4).mono ?_
  rintro e u6 ⟨za, zc, rfl, _, bu6⟩
  have hQ7 : Hid (IsInts u6 qa [0, 1, 3]) := hQ6.out.below bu6
  have hR7 : Hid (IsInts u6 ra [0, 2]) := hR6.out.below bu6
  have hS7 : Hid (IsInts u6 sa [1, 2]) := hS.out.below bu6
  have B11 : Hid (Below w.heap.size w u6) := grow_trans B10.out bu6
  clear bu6 hT6 hQ6 hR6 hS B10 hC CR
  have G1 : Below u6.heap.size u6 (u6.alloc (.cells #[.int .i64 0, .int .i64 1, .int .i64 3] 3)) := grow_alloc (Below.refl _ _) _
  have S1 : Hid (Calls Try.prog 23 #[.slice qa 3 qc, .slice (some ⟨u6.heap.size, 0, none⟩) 3 3] (u6.alloc (.cells #[.int .i64 0, .int .i64 1, .int .i64 3] 3)) fun e w' => e = .returned (.bool true) ∧ Below u6.heap.size u6 w') := (SI.out [0, 1, 3] qa _ qc 3 _ (by simp) (hQ7.out.below G1) (litInts3 u6 0 1 3 _ rfl)).mono fun e w' ⟨h1, h2⟩ => ⟨h1, grow_trans G1 h2⟩
  clear G1 hQ7
  go_wp2_with fail
  refine S1.out.mono ?_
  clear S1
  rintro e u7 ⟨rfl, bu7⟩
  have hR8 : Hid (IsInts u7 ra [0, 2]) := hR7.out.below bu7
  have hS8 : Hid (IsInts u7 sa [1, 2]) := hS7.out.below bu7
  have B12 : Hid (Below w.heap.size w u7) := grow_trans B11.out bu7
  clear bu7 hR7 hS7 B11
  have G2 : Below u7.heap.size u7 (u7.alloc (.cells #[.int .i64 0, .int .i64 2] 3)) := grow_alloc (Below.refl _ _) _
  have S2 : Hid (Calls Try.prog 23 #[.slice ra 2 rc, .slice (some ⟨u7.heap.size, 0, none⟩) 2 2] (u7.alloc (.cells #[.int .i64 0, .int .i64 2] 3)) fun e w' => e = .returned (.bool true) ∧ Below u7.heap.size u7 w') := (SI.out [0, 2] ra _ rc 2 _ (by simp) (hR8.out.below G2) (litInts2 u7 0 2 _ rfl)).mono fun e w' ⟨h1, h2⟩ => ⟨h1, grow_trans G2 h2⟩
  clear G2 hR8
  go_wp2_with fail
  refine S2.out.mono ?_
  clear S2
  rintro e u8 ⟨rfl, bu8⟩
  have hS9 : Hid (IsInts u8 sa [1, 2]) := hS8.out.below bu8
  have B13 : Hid (Below w.heap.size w u8) := grow_trans B12.out bu8
  clear bu8 hS8 B12
  have G3 : Below u8.heap.size u8 (u8.alloc (.cells #[.int .i64 1, .int .i64 2] 3)) := grow_alloc (Below.refl _ _) _
  have S3 : Hid (Calls Try.prog 23 #[.slice sa 2 sc, .slice (some ⟨u8.heap.size, 0, none⟩) 2 2] (u8.alloc (.cells #[.int .i64 1, .int .i64 2] 3)) fun e w' => e = .returned (.bool true) ∧ Below u8.heap.size u8 w') := (SI.out [1, 2] sa _ sc 2 _ (by simp) (hS9.out.below G3) (litInts2 u8 1 2 _ rfl)).mono fun e w' ⟨h1, h2⟩ => ⟨h1, grow_trans G3 h2⟩
  clear G3 hS9 SI
  go_wp2_with fail
  refine S3.out.mono ?_
  clear S3
  rintro e u9 ⟨rfl, bu9⟩
  have R : Hid (Below w.heap.size w u9) := grow_trans B13.out bu9
  clear bu9 B13
  go_wp2
  go_ret
  exact ⟨rfl, R.out⟩
end Go.Proofs.Ytikolifbljnokaa
