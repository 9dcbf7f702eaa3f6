/-
  graph.Clash: do two transactions have a key in common, and does one at least set it?
  Conditions: both can be read.
-/
import Derived.Test.YtikolifbljnokaaGraphA
import Derived.Test.YtikolifbljnokaaFault
import Derived.Test.YtikolifbljnokaaPlaceA
import Derived.WalkKit
import Derived.WalkSpells
import Derived.WalkLawsBesides
import Derived.Defers
import Derived.Recover
import Derived.ProofKit
import Derived.Deep.RegionHeld
import Derived.Deep.RegionHeld3
import Derived.BigQuiet
import Derived.Deep.RegionLaw
import Derived.Deep.DeepCutAuto
namespace Go.Proofs.Ytikolifbljnokaa
open Go.RowKit

set_option maxRecDepth 100000 in
theorem gotLocks_bad (a : Option Addr) (k c : Nat) (x : Int) (hx : ¬ x = 0) (w : World) : Calls Try.prog 35 #[.slice a k c, .int .i64 x] w fun e w' => e = .panicked [{ v := .iface 28 (.int .i64 x), recovered := false }] ∧ Below w.heap.size w w' := by
  have hn : firstNZ [x] = x := by unfold firstNZ; rw [if_neg hx]
  go_enter Try.func35, Try.ntmps35
  go_wp2_with fail
  refine (leave_nz [x] _ 1 _ (by simp) (by rw [hn]; exact hx) (errs1 _ _ _ rfl)).mono ?_
  rintro e w' ⟨rfl, rfl⟩
  rw [hn]
  exact ⟨rfl, rfl, grow_alloc (Below.refl _ _) _⟩

set_option maxRecDepth 100000 in
theorem cl38 (a b : Int) (p q : Bool) (w : World) : Calls Try.prog 38 #[.agg #[.int .i64 a, .bool p], .agg #[.int .i64 b, .bool q]] w fun e w' => e = .returned (.bool (p || q)) ∧ Below w.heap.size w w' := by
  cases p
  · go_enter Try.func38, Try.ntmps38
    go_wp2
    go_ret
    exact ⟨rfl, grow_alloc (grow_alloc (Below.refl _ _) _) _⟩
  · go_enter Try.func38, Try.ntmps38
    go_wp2
    go_ret
    exact ⟨rfl, grow_alloc (grow_alloc (Below.refl _ _) _) _⟩

/-- One lock and many. -/
def meet1 (a : Int × Bool) (M : List (Int × Bool)) : Bool := M.any fun b => a.1 == b.1 && (a.2 || b.2)
theorem meetV_step (L M : List (Int × Bool)) (k : Nat) (h : k < L.length) : meetV (L.drop k) M = (meet1 (L.getD k (0, false)) M || meetV (L.drop (k + 1)) M) := by
  unfold meetV meet1
  rw [List.drop_eq_getElem_cons h, List.any_cons]
  simp [List.getD, h]
theorem meet1_step (a : Int × Bool) (M : List (Int × Bool)) (j : Nat) (h : j < M.length) : meet1 a (M.drop j) = ((a.1 == (M.getD j (0, false)).1 && (a.2 || (M.getD j (0, false)).2)) || meet1 a (M.drop (j + 1))) := by
  unfold meet1
  rw [List.drop_eq_getElem_cons h, List.any_cons]
  simp [List.getD, h]

set_option maxRecDepth 100000 in
set_option maxHeartbeats 4000000 in
theorem meet_any (L M : List (Int × Bool)) (a1 a2 : Option Addr) (c1 c2 : Nat) (w : World) (h1 : IsLks w a1 L) (h2 : IsLks w a2 M) (hL : L.length ≤ 8) (hM : M.length ≤ 8) :
    Calls Try.prog 37 #[.slice a1 L.length c1, .slice a2 M.length c2, .func (.func 38) #[] #[]] w fun e w' => e = .returned (.bool (meetV L M)) ∧ Below w.heap.size w w' := by
  have H1 : Hid (IsLks w a1 L) := h1
  have H2 : Hid (IsLks w a2 M) := h2
  clear h1 h2
  go_enter Try.func37, Try.ntmps37
  go_wp2
  go_loopw [8, 10, 13] (fun _ _ i wr => ∃ k : Nat, k ≤ L.length ∧ i = .int .i64 k ∧ Hid (meetV L M = meetV (L.drop k) M) ∧ Hid (Below w.heap.size w wr)) (fun _ _ i _ => L.length - (intOf i).toNat)
  case atStart => exact ⟨0, Nat.zero_le _, rfl, rfl, Below.refl _ _⟩
  case round =>
    obtain ⟨k, hk, rfl, hV, hB⟩ := hrel
    by_cases hlt : k < L.length
    · obtain ⟨b, off, rfl, _, e0, e1⟩ := H1.out k hlt
      have d0 := ext_cell hB.out e0
      have d1 := ext_cell hB.out e1
      have HS : Hid (meetV L M = (meet1 (L.getD k (0, false)) M || meetV (L.drop (k + 1)) M)) := hV.out.trans (meetV_step L M k hlt)
      clear e0 e1 hV
      generalize L.getD k (0, false) = a at *
      obtain ⟨z, p⟩ := a
      simp only at d0 d1
      have j1 : (0 : Int) ≤ (k : Int) := by omega
      have j2 : (k : Int) < (L.length : Int) := by omega
      go_wp2
      have f0 : (wr.alloc (.cells #[.int .i64 z, .bool p] 73)).cell? ⟨wr.heap.size, 0, none⟩ = some (.int .i64 z) := by simp
      have f1 : (wr.alloc (.cells #[.int .i64 z, .bool p] 73)).cell? ⟨wr.heap.size, 1, none⟩ = some (.bool p) := by simp
      have HBV : Hid (Below w.heap.size w (wr.alloc (.cells #[.int .i64 z, .bool p] 73))) := grow_alloc hB.out _
      clear hB d0 d1
      generalize (wr.alloc (.cells #[.int .i64 z, .bool p] 73)) = V at *
      generalize wr.heap.size = X at *
      go_loopw [10, 19] (fun _ i wq => ∃ j : Nat, j ≤ M.length ∧ i = .int .i64 j ∧ Hid (meet1 (z, p) M = meet1 (z, p) (M.drop j)) ∧ Hid (Below V.heap.size V wq)) (fun _ i _ => M.length - (intOf i).toNat)
      case atStart => exact ⟨0, Nat.zero_le _, rfl, rfl, Below.refl _ _⟩
      case round =>
        obtain ⟨j, hj, rfl, hW, hBq⟩ := hrel
        have g0 := ext_cell hBq.out f0
        have g1 := ext_cell hBq.out f1
        by_cases hlt2 : j < M.length
        · obtain ⟨b', off', rfl, _, e0, e1⟩ := H2.out j hlt2
          have d0 := ext_cell hBq.out (ext_cell HBV.out e0)
          have d1 := ext_cell hBq.out (ext_cell HBV.out e1)
          have HS2 : Hid (meet1 (z, p) M = ((z == (M.getD j (0, false)).1 && (p || (M.getD j (0, false)).2)) || meet1 (z, p) (M.drop (j + 1)))) := hW.out.trans (meet1_step (z, p) M j hlt2)
          clear e0 e1 hW
          generalize M.getD j (0, false) = a' at *
          obtain ⟨y, q⟩ := a'
          simp only at d0 d1 HS2
          have j3 : (0 : Int) ≤ (j : Int) := by omega
          have j4 : (j : Int) < (M.length : Int) := by omega
          have hXn : X ≠ wr.heap.size := by
            have h := World.block_lt_of_cell? wr _ g0
            simp only at h
            omega
          go_upto_region 7 with fail
          have BA : Below wr.heap.size wr (wr.alloc (.cells #[.int .i64 y, .bool q] 73)) := grow_alloc (Below.refl _ _) _
          have k0 := ext_cell BA g0
          have k1 := ext_cell BA g1
          have l0 : (wr.alloc (.cells #[.int .i64 y, .bool q] 73)).cell? ⟨wr.heap.size, 0, none⟩ = some (.int .i64 y) := by simp
          have l1 : (wr.alloc (.cells #[.int .i64 y, .bool q] 73)).cell? ⟨wr.heap.size, 1, none⟩ = some (.bool q) := by simp
          have BV : Hid (Below V.heap.size V (wr.alloc (.cells #[.int .i64 y, .bool q] 73))) := grow_trans hBq.out BA
          clear BA g0 g1 d0 d1 hBq
          generalize wr.alloc (.cells #[.int .i64 y, .bool q] 73) = U at *
          generalize wr.heap.size = Y at *
          cases hzy : (z == y) with
          | false =>
            have HN : Hid (meet1 (z, p) M = meet1 (z, p) (M.drop (j + 1))) := by
              show _ = _
              rw [HS2.out, hzy]; rfl
            clear HS2
            go_wp2
            go_roundw
            case rel => exact ⟨j + 1, by omega, by go_num, HN, BV⟩
            case measure => simp [intOf]; omega
          | true =>
            go_wp2_with fail
            refine (cl38 z y p q _).mono ?_
            rintro e w2 ⟨rfl, hb2⟩
            have B2 : Hid (Below V.heap.size V w2) := grow_trans BV.out hb2
            cases hpq : (p || q) with
            | true =>
              have HR : Hid (meetV L M = true) := by
                show _ = _
                rw [HS.out, HS2.out, hzy, hpq]; rfl
              have RB : Hid (Below w.heap.size w w2) := grow_trans HBV.out B2.out
              clear HS HS2 hb2 B2
              go_wp2
              go_ret
              exact ⟨by rw [HR.out]; rfl, RB.out⟩
            | false =>
              have HN : Hid (meet1 (z, p) M = meet1 (z, p) (M.drop (j + 1))) := by
                show _ = _
                rw [HS2.out, hpq]; simp
              clear HS2 hb2
              go_wp2
              go_roundw
              case rel => exact ⟨j + 1, by omega, by go_num, HN, B2⟩
              case measure => simp [intOf]; omega
        · have HN : Hid (meetV L M = meetV (L.drop (k + 1)) M) := by
            have h0 := hW.out
            rw [List.drop_of_length_le (by omega)] at h0
            show _ = _
            rw [HS.out, h0]; rfl
          have RB : Hid (Below w.heap.size w wr) := grow_trans HBV.out hBq.out
          clear hW HS
          go_wp2
          go_roundw
          case rel => exact ⟨k + 1, by omega, by go_num, HN, RB⟩
          case measure => simp [intOf]; omega
    · have HN : Hid (meetV L M = false) := by
        have h0 := hV.out
        rw [List.drop_of_length_le (by omega)] at h0
        exact h0
      clear hV
      go_wp2
      go_ret
      exact ⟨by rw [HN.out]; rfl, hB.out⟩

variable (x y : TxA)

set_option maxRecDepth 100000 in
set_option maxHeartbeats 2000000 in
theorem clash1_ok (p q : Nat) (w : World) (p0 : w.cell? ⟨p, 0, none⟩ = some (.slice x.ra x.rs.length x.rc)) (p1 : w.cell? ⟨p, 1, none⟩ = some (.slice x.ga x.gs.length x.gc)) (p2 : w.cell? ⟨p, 2, none⟩ = some (.slice x.sa x.ss.length x.sc))
    (q0 : w.cell? ⟨q, 0, none⟩ = some (.slice y.ra y.rs.length y.rc)) (q1 : w.cell? ⟨q, 1, none⟩ = some (.slice y.ga y.gs.length y.gc)) (q2 : w.cell? ⟨q, 2, none⟩ = some (.slice y.sa y.ss.length y.sc)) (hx : IsX w x) (hy : IsX w y) (cx : chkX x = 0) (cy : chkX y = 0) :
    Calls Try.prog 34 #[.pointer (some ⟨p, 0, none⟩), .pointer (some ⟨q, 0, none⟩)] w fun e w' => e = .returned (.bool (clashX x y)) ∧ Below w.heap.size w w' := by
  have HM : Hid (meetV (lkTo x.rs (keysOf x.ss) 8) (lkTo y.rs (keysOf y.ss) 8) = clashX x y) := meetV_clash x y
  obtain ⟨ra, ga, sa, rc, gc, sc, rs, gs, ss⟩ := x
  obtain ⟨ra', ga', sa', rc', gc', sc', rs', gs', ss'⟩ := y
  simp only at p0 p1 p2 q0 q1 q2 HM
  have HX : Hid (IsTx w ra ga sa rs gs ss) := hx.t
  have HY : Hid (IsTx w ra' ga' sa' rs' gs' ss') := hy.t
  have L1 : Hid (lksOf rs gs ss = lkTo rs (keysOf ss) 8) := if_pos cx
  have L2 : Hid (lksOf rs' gs' ss' = lkTo rs' (keysOf ss') 8) := if_pos cy
  have C1 : Hid (chkTx rs gs ss = 0) := cx
  have C2 : Hid (chkTx rs' gs' ss' = 0) := cy
  have N1 := lkTo_len rs (keysOf ss) 8
  have N2 := lkTo_len rs' (keysOf ss') 8
  clear hx hy cx cy
  go_enter Try.func34, Try.ntmps34
  go_wp2_with fail
  refine (locks_any ra ga sa rc gc sc rs gs ss _ HX.out).mono ?_
  rintro e w1 ⟨a1, c1, rfl, hL1, hb1⟩
  rw [L1.out] at hL1 ⊢
  rw [C1.out]
  have q0 := ext_cell hb1 q0
  have q1 := ext_cell hb1 q1
  have q2 := ext_cell hb1 q2
  clear p0 p1 p2
  go_wp2_with fail
  refine (gotLocks_ok a1 _ c1 _).mono ?_
  rintro e w2 ⟨rfl, hw2⟩
  have hb2 : Below w1.heap.size w1 w2 := by rw [hw2]; exact grow_alloc (Below.refl _ _) _
  have HL1 : Hid (IsLks w2 a1 (lkTo rs (keysOf ss) 8)) := hL1.below hb2
  have q0 := ext_cell hb2 q0
  have q1 := ext_cell hb2 q1
  have q2 := ext_cell hb2 q2
  have B2 : Hid (Below w.heap.size w w2) := grow_trans hb1 hb2
  clear hb1 hb2 hw2 hL1
  go_wp2_with fail
  refine (locks_any ra' ga' sa' rc' gc' sc' rs' gs' ss' _ (HY.out.below B2.out)).mono ?_
  rintro e w3 ⟨a2, c2, rfl, hL2, hb3⟩
  rw [L2.out] at hL2 ⊢
  rw [C2.out]
  clear q0 q1 q2
  have HL1 : Hid (IsLks w3 a1 (lkTo rs (keysOf ss) 8)) := HL1.out.below hb3
  have B3 : Hid (Below w.heap.size w w3) := grow_trans B2.out hb3
  clear B2 hb3
  go_wp2_with fail
  refine (gotLocks_ok a2 _ c2 _).mono ?_
  rintro e w4 ⟨rfl, hw4⟩
  have hb4 : Below w3.heap.size w3 w4 := by rw [hw4]; exact grow_alloc (Below.refl _ _) _
  have HL1 : Hid (IsLks w4 a1 (lkTo rs (keysOf ss) 8)) := HL1.out.below hb4
  have HL2 : Hid (IsLks w4 a2 (lkTo rs' (keysOf ss') 8)) := hL2.below hb4
  have B4 : Hid (Below w.heap.size w w4) := grow_trans B3.out hb4
  clear B3 hb4 hL2 hw4
  go_wp2_with fail
  refine (meet_any _ _ a1 a2 c1 c2 _ HL1.out HL2.out N1 N2).mono ?_
  rintro e w5 ⟨rfl, hb5⟩
  rw [HM.out]
  have B5 : Hid (Below w.heap.size w w5) := grow_trans B4.out hb5
  clear hb5 HL1 HL2
  go_wp2
  go_ret
  exact ⟨rfl, B5.out⟩

set_option maxRecDepth 100000 in
set_option maxHeartbeats 2000000 in
theorem clash1_pan1 (p q : Nat) (w : World) (p0 : w.cell? ⟨p, 0, none⟩ = some (.slice x.ra x.rs.length x.rc)) (p1 : w.cell? ⟨p, 1, none⟩ = some (.slice x.ga x.gs.length x.gc)) (p2 : w.cell? ⟨p, 2, none⟩ = some (.slice x.sa x.ss.length x.sc)) (hx : IsX w x) (cx : ¬ chkX x = 0) :
    Calls Try.prog 34 #[.pointer (some ⟨p, 0, none⟩), .pointer (some ⟨q, 0, none⟩)] w fun e w' => e = .panicked [{ v := .iface 28 (.int .i64 (chkX x)), recovered := false }] ∧ Below w.heap.size w w' := by
  obtain ⟨ra, ga, sa, rc, gc, sc, rs, gs, ss⟩ := x
  simp only at p0 p1 p2
  have HX : Hid (IsTx w ra ga sa rs gs ss) := hx.t
  have C1 : Hid (¬ chkTx rs gs ss = 0) := cx
  have HC : Hid (chkX ⟨ra, ga, sa, rc, gc, sc, rs, gs, ss⟩ = chkTx rs gs ss) := rfl
  clear hx cx
  go_enter Try.func34, Try.ntmps34
  go_wp2_with fail
  refine (locks_any ra ga sa rc gc sc rs gs ss _ HX.out).mono ?_
  rintro e w1 ⟨a1, c1, rfl, _, hb1⟩
  clear p0 p1 p2
  go_wp2_with fail
  refine (gotLocks_bad a1 _ c1 _ C1.out _).mono ?_
  rintro e w2 ⟨rfl, hb2⟩
  exact ⟨rfl, rfl, grow_trans hb1 hb2⟩

set_option maxRecDepth 100000 in
set_option maxHeartbeats 2000000 in
theorem clash1_pan2 (p q : Nat) (w : World) (p0 : w.cell? ⟨p, 0, none⟩ = some (.slice x.ra x.rs.length x.rc)) (p1 : w.cell? ⟨p, 1, none⟩ = some (.slice x.ga x.gs.length x.gc)) (p2 : w.cell? ⟨p, 2, none⟩ = some (.slice x.sa x.ss.length x.sc))
    (q0 : w.cell? ⟨q, 0, none⟩ = some (.slice y.ra y.rs.length y.rc)) (q1 : w.cell? ⟨q, 1, none⟩ = some (.slice y.ga y.gs.length y.gc)) (q2 : w.cell? ⟨q, 2, none⟩ = some (.slice y.sa y.ss.length y.sc)) (hx : IsX w x) (hy : IsX w y) (cx : chkX x = 0) (cy : ¬ chkX y = 0) :
    Calls Try.prog 34 #[.pointer (some ⟨p, 0, none⟩), .pointer (some ⟨q, 0, none⟩)] w fun e w' => e = .panicked [{ v := .iface 28 (.int .i64 (chkX y)), recovered := false }] ∧ Below w.heap.size w w' := by
  obtain ⟨ra, ga, sa, rc, gc, sc, rs, gs, ss⟩ := x
  obtain ⟨ra', ga', sa', rc', gc', sc', rs', gs', ss'⟩ := y
  simp only at p0 p1 p2 q0 q1 q2
  have HX : Hid (IsTx w ra ga sa rs gs ss) := hx.t
  have HY : Hid (IsTx w ra' ga' sa' rs' gs' ss') := hy.t
  have C1 : Hid (chkTx rs gs ss = 0) := cx
  have C2 : Hid (¬ chkTx rs' gs' ss' = 0) := cy
  have HC : Hid (chkX ⟨ra', ga', sa', rc', gc', sc', rs', gs', ss'⟩ = chkTx rs' gs' ss') := rfl
  clear hx hy cx cy
  go_enter Try.func34, Try.ntmps34
  go_wp2_with fail
  refine (locks_any ra ga sa rc gc sc rs gs ss _ HX.out).mono ?_
  rintro e w1 ⟨a1, c1, rfl, _, hb1⟩
  rw [C1.out]
  have q0 := ext_cell hb1 q0
  have q1 := ext_cell hb1 q1
  have q2 := ext_cell hb1 q2
  clear p0 p1 p2
  go_wp2_with fail
  refine (gotLocks_ok a1 _ c1 _).mono ?_
  rintro e w2 ⟨rfl, hw2⟩
  have hb2 : Below w1.heap.size w1 w2 := by rw [hw2]; exact grow_alloc (Below.refl _ _) _
  have q0 := ext_cell hb2 q0
  have q1 := ext_cell hb2 q1
  have q2 := ext_cell hb2 q2
  have B2 : Hid (Below w.heap.size w w2) := grow_trans hb1 hb2
  clear hb1 hb2 hw2
  go_wp2_with fail
  refine (locks_any ra' ga' sa' rc' gc' sc' rs' gs' ss' _ (HY.out.below B2.out)).mono ?_
  rintro e w3 ⟨a2, c2, rfl, _, hb3⟩
  clear q0 q1 q2
  go_wp2_with fail
  refine (gotLocks_bad a2 _ c2 _ C2.out _).mono ?_
  rintro e w4 ⟨rfl, hb4⟩
  exact ⟨rfl, rfl, grow_trans B2.out (grow_trans hb3 hb4)⟩

/-- What Clash answers. -/
def clE (x y : TxA) : Int := if chkX x = 0 then chkX y else chkX x
def clB (x y : TxA) : Bool := if clE x y = 0 then clashX x y else false

set_option maxRecDepth 100000 in
set_option maxHeartbeats 1000000 in
theorem clash_by (v : Bool) (c : Int) (w : World)
    (h : Calls Try.prog 33 #[.func (.func 34) #[] #[.pointer (some ⟨w.heap.size, 0, none⟩), .pointer (some ⟨w.heap.size + 1, 0, none⟩)]] ((w.alloc (.cells #[.slice x.ra x.rs.length x.rc, .slice x.ga x.gs.length x.gc, .slice x.sa x.ss.length x.sc] 26)).alloc (.cells #[.slice y.ra y.rs.length y.rc, .slice y.ga y.gs.length y.gc, .slice y.sa y.ss.length y.sc] 26)) fun e w' => e = .returned (.tuple #[.bool v, .int .i64 c]) ∧ Below w.heap.size w w') :
    Calls Try.prog 11 #[.agg #[.slice x.ra x.rs.length x.rc, .slice x.ga x.gs.length x.gc, .slice x.sa x.ss.length x.sc], .agg #[.slice y.ra y.rs.length y.rc, .slice y.ga y.gs.length y.gc, .slice y.sa y.ss.length y.sc]] w fun e w' => e = .returned (.tuple #[.bool v, .int .i64 c]) ∧ Below w.heap.size w w' := by
  obtain ⟨ra, ga, sa, rc, gc, sc, rs, gs, ss⟩ := x
  obtain ⟨ra', ga', sa', rc', gc', sc', rs', gs', ss'⟩ := y
  simp only at h ⊢
  have hmf : ∀ (fn : Fn) (first cap : Array Value) (w : World), (Instr.makeFunc fn first cap).run Try.prog w = .ok (.func fn first cap) w := fun _ _ _ _ => rfl
  have H : Hid (Calls Try.prog 33 #[.func (.func 34) #[] #[.pointer (some ⟨w.heap.size, 0, none⟩), .pointer (some ⟨w.heap.size + 1, 0, none⟩)]] ((w.alloc (.cells #[.slice ra rs.length rc, .slice ga gs.length gc, .slice sa ss.length sc] 26)).alloc (.cells #[.slice ra' rs'.length rc', .slice ga' gs'.length gc', .slice sa' ss'.length sc'] 26)) fun e w' => e = .returned (.tuple #[.bool v, .int .i64 c]) ∧ Below w.heap.size w w') := h
  clear h
  go_enter Try.func11, Try.ntmps11
  go_wp2_with fail
  refine H.out.mono ?_
  clear H
  rintro e w1 ⟨rfl, hb⟩
  have hB : Hid (Below w.heap.size w w1) := hb
  clear hb
  go_wp2
  go_ret2
  exact ⟨rfl, hB.out⟩

set_option maxRecDepth 100000 in
theorem clash_any (w : World) (hx : IsX w x) (hy : IsX w y) :
    Calls Try.prog 11 #[.agg #[.slice x.ra x.rs.length x.rc, .slice x.ga x.gs.length x.gc, .slice x.sa x.ss.length x.sc], .agg #[.slice y.ra y.rs.length y.rc, .slice y.ga y.gs.length y.gc, .slice y.sa y.ss.length y.sc]] w fun e w' => e = .returned (.tuple #[.bool (clB x y), .int .i64 (clE x y)]) ∧ Below w.heap.size w w' := by
  have g1 : Below w.heap.size w ((w.alloc (.cells #[.slice x.ra x.rs.length x.rc, .slice x.ga x.gs.length x.gc, .slice x.sa x.ss.length x.sc] 26)).alloc (.cells #[.slice y.ra y.rs.length y.rc, .slice y.ga y.gs.length y.gc, .slice y.sa y.ss.length y.sc] 26)) := grow_alloc (grow_alloc (Below.refl _ _) _) _
  have hs : ((w.alloc (.cells #[.slice x.ra x.rs.length x.rc, .slice x.ga x.gs.length x.gc, .slice x.sa x.ss.length x.sc] 26)).alloc (.cells #[.slice y.ra y.rs.length y.rc, .slice y.ga y.gs.length y.gc, .slice y.sa y.ss.length y.sc] 26)).heap.size = w.heap.size + 2 := by simp
  refine clash_by x y _ _ w ?_
  have p : ∀ j u, [Value.slice x.ra x.rs.length x.rc, .slice x.ga x.gs.length x.gc, .slice x.sa x.ss.length x.sc][j]? = some u → (((w.alloc (.cells #[.slice x.ra x.rs.length x.rc, .slice x.ga x.gs.length x.gc, .slice x.sa x.ss.length x.sc] 26)).alloc (.cells #[.slice y.ra y.rs.length y.rc, .slice y.ga y.gs.length y.gc, .slice y.sa y.ss.length y.sc] 26)).alloc (.cells #[.int .i64 0] 28)).cell? ⟨w.heap.size, j, none⟩ = some u := by
    intro j u hj
    rw [World.cell?_alloc_lt _ _ _ (by simp; omega), World.cell?_alloc_lt _ _ _ (by simp)]
    match j, hj with
    | 0, hj => simp at hj; subst hj; simp
    | 1, hj => simp at hj; subst hj; simp
    | 2, hj => simp at hj; subst hj; simp
    | j + 3, hj => simp at hj
  have q : ∀ j u, [Value.slice y.ra y.rs.length y.rc, .slice y.ga y.gs.length y.gc, .slice y.sa y.ss.length y.sc][j]? = some u → (((w.alloc (.cells #[.slice x.ra x.rs.length x.rc, .slice x.ga x.gs.length x.gc, .slice x.sa x.ss.length x.sc] 26)).alloc (.cells #[.slice y.ra y.rs.length y.rc, .slice y.ga y.gs.length y.gc, .slice y.sa y.ss.length y.sc] 26)).alloc (.cells #[.int .i64 0] 28)).cell? ⟨w.heap.size + 1, j, none⟩ = some u := by
    intro j u hj
    rw [World.cell?_alloc_lt _ _ _ (by simp)]
    match j, hj with
    | 0, hj => simp at hj; subst hj; simp
    | 1, hj => simp at hj; subst hj; simp
    | 2, hj => simp at hj; subst hj; simp
    | j + 3, hj => simp at hj
  generalize (w.alloc (.cells #[.slice x.ra x.rs.length x.rc, .slice x.ga x.gs.length x.gc, .slice x.sa x.ss.length x.sc] 26)).alloc (.cells #[.slice y.ra y.rs.length y.rc, .slice y.ga y.gs.length y.gc, .slice y.sa y.ss.length y.sc] 26) = W at *
  have g2 : Below w.heap.size w (W.alloc (.cells #[.int .i64 0] 28)) := grow_alloc g1 _
  have hx' := hx.below g2
  have hy' := hy.below g2
  by_cases cx : chkX x = 0
  · have e1 : clE x y = chkX y := if_pos cx
    by_cases cy : chkX y = 0
    · have e2 : clB x y = clashX x y := if_pos (e1.trans cy)
      rw [e1, e2, cy]
      refine (caughtBo_ret 34 _ (fun _ => rfl) (fun v _ => v = .bool (clashX x y)) W (fun _ _ h => h) ((clash1_ok x y _ _ _ (p 0 _ rfl) (p 1 _ rfl) (p 2 _ rfl) (q 0 _ rfl) (q 1 _ rfl) (q 2 _ rfl) hx' hy' cx cy).mono ?_)).mono ?_
      · rintro e w' ⟨rfl, hb⟩
        exact ⟨_, rfl, rfl, hb.mono (by simp)⟩
      · rintro e w' ⟨v, rfl, rfl, hb⟩
        exact ⟨rfl, grow_trans g1 hb⟩
    · have e2 : clB x y = false := if_neg (by rw [e1]; exact cy)
      rw [e1, e2]
      refine (caughtBo_pan 34 _ (fun _ => rfl) (chkX y) W ((clash1_pan2 x y _ _ _ (p 0 _ rfl) (p 1 _ rfl) (p 2 _ rfl) (q 0 _ rfl) (q 1 _ rfl) (q 2 _ rfl) hx' hy' cx cy).mono ?_)).mono ?_
      · rintro e w' ⟨rfl, hb⟩
        exact ⟨rfl, hb.mono (by simp)⟩
      · rintro e w' ⟨rfl, hb⟩
        exact ⟨rfl, grow_trans g1 hb⟩
  · have e1 : clE x y = chkX x := if_neg cx
    have e2 : clB x y = false := if_neg (by rw [e1]; exact cx)
    rw [e1, e2]
    refine (caughtBo_pan 34 _ (fun _ => rfl) (chkX x) W ((clash1_pan1 x _ _ _ (p 0 _ rfl) (p 1 _ rfl) (p 2 _ rfl) hx' cx).mono ?_)).mono ?_
    · rintro e w' ⟨rfl, hb⟩
      exact ⟨rfl, hb.mono (by simp)⟩
    · rintro e w' ⟨rfl, hb⟩
      exact ⟨rfl, grow_trans g1 hb⟩
end Go.Proofs.Ytikolifbljnokaa
