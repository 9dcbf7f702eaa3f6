/-
  run.Run with its errors; the statements' own begun examples of runs (runBegun).
  Conditions: the arguments can be read.
-/
import Derived.Test.YtikolifbljnokaaGreatRunE
import Derived.Test.YtikolifbljnokaaGreatGraphZ
import Derived.WalkKit
import Derived.WalkSpells
import Derived.WalkLawsBesides
import Derived.ProofKit
import Derived.Deep.RegionHeld3
import Derived.BigQuiet
namespace Go.Proofs.YtikolifbljnokaaGreat
open Go.RowKit

section
variable (sa : Option Addr) (sc : Nat) (s : List Int) (la : Option Addr) (lc : Nat) (l : List TxA) (pa : Option Addr) (pc : Nat) (picks : List Int)
set_option maxRecDepth 100000 in
set_option maxHeartbeats 1000000 in
theorem run_bad (w : World) (hl : IsTxs w la l) (hp : IsInts w pa picks) (hE : ¬ ckE s l picks = 0) :
    Calls Tryz.prog 4 #[.slice sa s.length sc, .slice la l.length lc, .slice pa picks.length pc] w fun e w' => e = .returned (.tuple #[.slice none 0 0, .slice none 0 0, .int .i64 (ckE s l picks)]) ∧ Below w.heap.size w w' := by
  have CK : Hid (Calls Tryz.prog 8 #[.slice sa s.length sc, .slice la l.length lc, .slice pa picks.length pc] w fun e w' => e = .returned (.int .i64 (ckE s l picks)) ∧ Below w.heap.size w w') := rcheck_any sa sc s la lc l pa pc picks w hl hp
  have hb : (ckE s l picks != 0) = true := by simpa using hE
  clear hl hp hE
  go_enter Tryz.func4, Tryz.ntmps4
  go_wp2_with fail
  refine CK.out.mono ?_
  clear CK
  rintro e w1 ⟨rfl, b1⟩
  have B1 : Hid (Below w.heap.size w w1) := b1
  clear b1
  go_wp2
  refine bodyPost_ret (v := .tuple #[.slice none 0 0, .slice none 0 0, .int .i64 (ckE s l picks)]) (by simp [results, Tryz.results4, go_sem]) rfl ⟨rfl, B1.out⟩
end

theorem runInts1 (w : World) (z0 : Int) (n : Nat) (hn : n = w.heap.size) : IsInts (w.alloc (.cells #[.int .i64 z0] 3)) (some ⟨n, 0, none⟩) [z0] := fun i hi => by
  subst hn
  match i, hi with
  | 0, _ => exact ⟨w.heap.size, 0, rfl, by simp, at_new _ _ 3 _ 0 _ rfl rfl⟩
theorem runInts2 (w : World) (z0 z1 : Int) (n : Nat) (hn : n = w.heap.size) : IsInts (w.alloc (.cells #[.int .i64 z0, .int .i64 z1] 3)) (some ⟨n, 0, none⟩) [z0, z1] := fun i hi => by
  subst hn
  match i, hi with
  | 0, _ => exact ⟨w.heap.size, 0, rfl, by simp, at_new _ _ 3 _ 0 _ rfl rfl⟩
  | 1, _ => exact ⟨w.heap.size, 0, rfl, by simp, at_new _ _ 3 _ 1 _ rfl rfl⟩
theorem runInts3 (w : World) (z0 z1 z2 : Int) (n : Nat) (hn : n = w.heap.size) : IsInts (w.alloc (.cells #[.int .i64 z0, .int .i64 z1, .int .i64 z2] 3)) (some ⟨n, 0, none⟩) [z0, z1, z2] := fun i hi => by
  subst hn
  match i, hi with
  | 0, _ => exact ⟨w.heap.size, 0, rfl, by simp, at_new _ _ 3 _ 0 _ rfl rfl⟩
  | 1, _ => exact ⟨w.heap.size, 0, rfl, by simp, at_new _ _ 3 _ 1 _ rfl rfl⟩
  | 2, _ => exact ⟨w.heap.size, 0, rfl, by simp, at_new _ _ 3 _ 2 _ rfl rfl⟩
theorem runInts8 (w : World) (z0 z1 z2 z3 z4 z5 z6 z7 : Int) (n : Nat) (hn : n = w.heap.size) : IsInts (w.alloc (.cells #[.int .i64 z0, .int .i64 z1, .int .i64 z2, .int .i64 z3, .int .i64 z4, .int .i64 z5, .int .i64 z6, .int .i64 z7] 3)) (some ⟨n, 0, none⟩) [z0, z1, z2, z3, z4, z5, z6, z7] := fun i hi => by
  subst hn
  match i, hi with
  | 0, _ => exact ⟨w.heap.size, 0, rfl, by simp, at_new _ _ 3 _ 0 _ rfl rfl⟩
  | 1, _ => exact ⟨w.heap.size, 0, rfl, by simp, at_new _ _ 3 _ 1 _ rfl rfl⟩
  | 2, _ => exact ⟨w.heap.size, 0, rfl, by simp, at_new _ _ 3 _ 2 _ rfl rfl⟩
  | 3, _ => exact ⟨w.heap.size, 0, rfl, by simp, at_new _ _ 3 _ 3 _ rfl rfl⟩
  | 4, _ => exact ⟨w.heap.size, 0, rfl, by simp, at_new _ _ 3 _ 4 _ rfl rfl⟩
  | 5, _ => exact ⟨w.heap.size, 0, rfl, by simp, at_new _ _ 3 _ 5 _ rfl rfl⟩
  | 6, _ => exact ⟨w.heap.size, 0, rfl, by simp, at_new _ _ 3 _ 6 _ rfl rfl⟩
  | 7, _ => exact ⟨w.heap.size, 0, rfl, by simp, at_new _ _ 3 _ 7 _ rfl rfl⟩

theorem rDone_core {x y : TxA} (h : x.core = y.core) (s : List Int) : aDone s x = aDone s y := by
  obtain ⟨h1, h2, _⟩ := core_parts h
  unfold aDone
  rw [h1, h2]
theorem rVals_core {x y : TxA} (h : x.core = y.core) (s : List Int) : aVals s x = aVals s y := by
  obtain ⟨h1, _, _⟩ := core_parts h
  unfold aVals
  rw [h1]
theorem rEnd_core {x y : TxA} (h : x.core = y.core) (s : List Int) : aEnd s x = aEnd s y := by
  obtain ⟨h1, h2, h3⟩ := core_parts h
  unfold aEnd aMade
  rw [h1, h2, h3]
theorem rSer_core : ∀ (l m : List TxA) (s : List Int), l.map TxA.core = m.map TxA.core → serEnd s l = serEnd s m ∧ serRes s l = serRes s m
  | [], [], _, _ => ⟨rfl, rfl⟩
  | x :: l, y :: m, s, h => by
    injection h with h1 h2
    obtain ⟨i1, i2⟩ := rSer_core l m (aEnd s y) h2
    rw [serEnd, serEnd, serRes, serRes, rEnd_core h1, rDone_core h1, rVals_core h1, i1, i2]
    exact ⟨rfl, rfl⟩
  | [], y :: m, _, h => by cases h
  | x :: l, [], _, h => by cases h
theorem rReady_core {l m : List TxA} (h : l.map TxA.core = m.map TxA.core) (done : List Bool) (n : Nat) : readyX l done n = readyX m done n := by
  unfold readyX freeTo
  congr 2
  funext j
  rw [clashX_core (x := gX l j) (y := gX l n) (x' := gX m j) (y' := gX m n) (core_at h j) (core_at h n)]
theorem pick1_core {l m : List TxA} (h : l.map TxA.core = m.map TxA.core) (done : List Bool) (p : Int) : pick1 l done p = pick1 m done p := by
  unfold pick1
  rw [len_core h, rReady_core h]
theorem pkE_core {l m : List TxA} (h : l.map TxA.core = m.map TxA.core) : ∀ (picks : List Int) (d : List Bool), pkE l d picks = pkE m d picks
  | [], _ => rfl
  | p :: t, d => by rw [pkE, pkE, pick1_core h, pkE_core h t]
theorem ckE_core {l m : List TxA} (h : l.map TxA.core = m.map TxA.core) (s picks : List Int) : ckE s l picks = ckE s m picks := by
  unfold ckE prE d0
  rw [chkL_core h, len_core h, pkE_core h]

def S8 : List Int := [5, 1, 0, 0, 0, 0, 0, 0]
def three : List TxA := [mkX (payC 3), mkX noteC, mkX (markC 9)]
theorem rb0 : ckE S8 three [2, 0, 1] = 0 := by decide
theorem rb6 : ckE S8 three [1, 0, 2] = 6 := by decide
theorem rb7 : ckE S8 three [0, 0] = 7 := by decide
theorem rb8 : ckE S8 three [0] = 8 := by decide
theorem rb5 : ckE S8 three [3] = 5 := by decide
theorem rbE : serEnd S8 three = [2, 4, 0, 0, 0, 4, 0, 9] := by decide +kernel
theorem rbR : serRes S8 three = [(true, [5, 1]), (true, [4]), (true, [])] := by decide +kernel
theorem isTxs_3 (w : World) (x y z : TxA) (n : Nat) (hn : n = w.heap.size) (hx : IsX w x) (hy : IsX w y) (hz : IsX w z) : IsTxs (w.alloc (.cells #[.slice x.ra x.rs.length x.rc, .slice x.ga x.gs.length x.gc, .slice x.sa x.ss.length x.sc, .slice y.ra y.rs.length y.rc, .slice y.ga y.gs.length y.gc, .slice y.sa y.ss.length y.sc, .slice z.ra z.rs.length z.rc, .slice z.ga z.gs.length z.gc, .slice z.sa z.ss.length z.sc] 38)) (some ⟨n, 0, none⟩) [x, y, z] := by
  subst hn
  intro i hi
  match i, hi with
  | 0, _ => exact ⟨w.heap.size, 0, rfl, by simp, by simp, by simp, by simp, hx.below (grow_alloc (Below.refl _ _) _)⟩
  | 1, _ => exact ⟨w.heap.size, 0, rfl, by simp, by simp, by simp, by simp, hy.below (grow_alloc (Below.refl _ _) _)⟩
  | 2, _ => exact ⟨w.heap.size, 0, rfl, by simp, by simp, by simp, by simp, hz.below (grow_alloc (Below.refl _ _) _)⟩

set_option maxRecDepth 100000 in
set_option maxHeartbeats 4000000 in
theorem runBegun_any (w : World) : Calls Tryz.prog 7 #[] w fun e w' => e = .returned (.bool true) ∧ Below w.heap.size w w' := by
  have SI : Hid (∀ (zs : List Int) (a a' : Option Addr) (c c' : Nat) (w : World), zs.length ≤ 100 → IsInts w a zs → IsInts w a' zs → Calls Tryz.prog 9 #[.slice a zs.length c, .slice a' zs.length c'] w fun e w' => e = .returned (.bool true) ∧ Below w.heap.size w w') := fun zs a a' c c' w hl h1 h2 => by
    refine (sameInts_any zs zs a a' c c' w (by unfold maxLen; omega) h1 h2).mono ?_
    rintro e w' ⟨rfl, hb⟩
    exact ⟨by simp, hb⟩
  have CKA : Hid (∀ (A T : Nat) (picks : List Int) (k : Nat) (E : Int) (l : List TxA) (P : Option Addr) (w : World), picks.length = k → l.map TxA.core = three.map TxA.core → IsTxs w (some ⟨T, 0, none⟩) l → IsInts w P picks → ckE S8 three picks = E → Calls Tryz.prog 8 #[.slice (some ⟨A, 0, none⟩) 8 8, .slice (some ⟨T, 0, none⟩) 3 3, .slice P k k] w fun e w' => e = .returned (.int .i64 E) ∧ Below w.heap.size w w') := fun A T picks k E l P w hk hc hl hp hE => by
    have h := rcheck_any (some ⟨A, 0, none⟩) 8 S8 (some ⟨T, 0, none⟩) 3 l P k picks w hl hp
    rw [ckE_core hc, hE, len_core hc, hk] at h
    exact h
  have CRA : Hid (∀ (A T : Nat) (l : List TxA) (P : Option Addr) (w : World), l.map TxA.core = three.map TxA.core → IsInts w (some ⟨A, 0, none⟩) S8 → IsTxs w (some ⟨T, 0, none⟩) l → IsInts w P [2, 0, 1] → Calls Tryz.prog 4 #[.slice (some ⟨A, 0, none⟩) 8 8, .slice (some ⟨T, 0, none⟩) 3 3, .slice P 3 3] w fun e w' => ∃ ea ec ra rc, e = .returned (.tuple #[.slice ea 8 ec, .slice ra 3 rc, .int .i64 0]) ∧ Hid (IsInts w' ea [2, 4, 0, 0, 0, 4, 0, 9]) ∧ Hid (IsRes w' ra [(true, [5, 1]), (true, [4]), (true, [])]) ∧ Below w.heap.size w w') := fun A T l P w hc hs hl hp => by
    have h := run_ok (some ⟨A, 0, none⟩) 8 S8 (some ⟨T, 0, none⟩) 3 l P 3 [2, 0, 1] w hs hl hp (by rw [ckE_core hc]; exact rb0)
    obtain ⟨e1, e2⟩ := rSer_core l three S8 hc
    rw [e1, e2, rbE, rbR, len_core hc] at h
    exact h
  go_enter Tryz.func7, Tryz.ntmps7
  have GS : Hid (Below w.heap.size w (w.alloc (.cells #[.int .i64 5, .int .i64 1, .int .i64 0, .int .i64 0, .int .i64 0, .int .i64 0, .int .i64 0, .int .i64 0] 3))) := grow_alloc (Below.refl _ _) _
  have hS0 : Hid (IsInts (w.alloc (.cells #[.int .i64 5, .int .i64 1, .int .i64 0, .int .i64 0, .int .i64 0, .int .i64 0, .int .i64 0, .int .i64 0] 3)) (some ⟨w.heap.size, 0, none⟩) S8) := runInts8 w 5 1 0 0 0 0 0 0 _ rfl
  go_upto_region 2 with fail
  generalize w.alloc (.cells #[.int .i64 5, .int .i64 1, .int .i64 0, .int .i64 0, .int .i64 0, .int .i64 0, .int .i64 0, .int .i64 0] 3) = W at *
  generalize hA : w.heap.size = A at hS0 ⊢
  go_wp2_with fail
  refine (pay_x 3 _).mono ?_
  rintro e w1 ⟨x1, rfl, hx1, cx1, bw1⟩
  go_wp2_with fail
  refine (note_x _).mono ?_
  rintro e w2 ⟨x2, rfl, hx2, cx2, bw2⟩
  go_wp2_with fail
  refine (mark_x 9 _).mono ?_
  rintro e w3 ⟨x3, rfl, hx3, cx3, bw3⟩
  have hT : Hid (IsTxs (w3.alloc (.cells #[.slice x1.ra x1.rs.length x1.rc, .slice x1.ga x1.gs.length x1.gc, .slice x1.sa x1.ss.length x1.sc, .slice x2.ra x2.rs.length x2.rc, .slice x2.ga x2.gs.length x2.gc, .slice x2.sa x2.ss.length x2.sc, .slice x3.ra x3.rs.length x3.rc, .slice x3.ga x3.gs.length x3.gc, .slice x3.sa x3.ss.length x3.sc] 38)) (some ⟨w3.heap.size, 0, none⟩) [x1, x2, x3]) := isTxs_3 w3 x1 x2 x3 _ rfl (hx1.out.below (grow_trans bw2 bw3)) (hx2.out.below bw3) hx3.out
  have hC : Hid ([x1, x2, x3].map TxA.core = three.map TxA.core) := by
    show [x1.core, x2.core, x3.core] = _
    rw [cx1.out, cx2.out, cx3.out]
    rfl
  have gT : Below W.heap.size W (w3.alloc (.cells #[.slice x1.ra x1.rs.length x1.rc, .slice x1.ga x1.gs.length x1.gc, .slice x1.sa x1.ss.length x1.sc, .slice x2.ra x2.rs.length x2.rc, .slice x2.ga x2.gs.length x2.gc, .slice x2.sa x2.ss.length x2.sc, .slice x3.ra x3.rs.length x3.rc, .slice x3.ga x3.gs.length x3.gc, .slice x3.sa x3.ss.length x3.sc] 38)) := grow_alloc (grow_trans bw1 (grow_trans bw2 bw3)) _
  have hS1 : Hid (IsInts (w3.alloc (.cells #[.slice x1.ra x1.rs.length x1.rc, .slice x1.ga x1.gs.length x1.gc, .slice x1.sa x1.ss.length x1.sc, .slice x2.ra x2.rs.length x2.rc, .slice x2.ga x2.gs.length x2.gc, .slice x2.sa x2.ss.length x2.sc, .slice x3.ra x3.rs.length x3.rc, .slice x3.ga x3.gs.length x3.gc, .slice x3.sa x3.ss.length x3.sc] 38)) (some ⟨A, 0, none⟩) S8) := hS0.out.below gT
  have B3 : Hid (Below w.heap.size w (w3.alloc (.cells #[.slice x1.ra x1.rs.length x1.rc, .slice x1.ga x1.gs.length x1.gc, .slice x1.sa x1.ss.length x1.sc, .slice x2.ra x2.rs.length x2.rc, .slice x2.ga x2.gs.length x2.gc, .slice x2.sa x2.ss.length x2.sc, .slice x3.ra x3.rs.length x3.rc, .slice x3.ga x3.gs.length x3.gc, .slice x3.sa x3.ss.length x3.sc] 38))) := grow_trans GS.out gT
  clear bw1 bw2 bw3 hx1 hx2 hx3 cx1 cx2 cx3 gT hS0 GS
  go_upto_region 3 with fail
  generalize hU : w3.alloc (.cells #[.slice x1.ra x1.rs.length x1.rc, .slice x1.ga x1.gs.length x1.gc, .slice x1.sa x1.ss.length x1.sc, .slice x2.ra x2.rs.length x2.rc, .slice x2.ga x2.gs.length x2.gc, .slice x2.sa x2.ss.length x2.sc, .slice x3.ra x3.rs.length x3.rc, .slice x3.ga x3.gs.length x3.gc, .slice x3.sa x3.ss.length x3.sc] 38) = U at *
  generalize w3.heap.size = T at *
  clear hU
  generalize hxs : [x1, x2, x3] = xs at *
  clear hxs
  have G0 : Below U.heap.size U (U.alloc (.cells #[.int .i64 2, .int .i64 0, .int .i64 1] 3)) := grow_alloc (Below.refl _ _) _
  have KR : Hid (Calls Tryz.prog 4 #[.slice (some ⟨A, 0, none⟩) 8 8, .slice (some ⟨T, 0, none⟩) 3 3, .slice (some ⟨U.heap.size, 0, none⟩) 3 3] (U.alloc (.cells #[.int .i64 2, .int .i64 0, .int .i64 1] 3)) fun e w' => ∃ ea ec ra rc, e = .returned (.tuple #[.slice ea 8 ec, .slice ra 3 rc, .int .i64 0]) ∧ Hid (IsInts w' ea [2, 4, 0, 0, 0, 4, 0, 9]) ∧ Hid (IsRes w' ra [(true, [5, 1]), (true, [4]), (true, [])]) ∧ Below U.heap.size U w') := (CRA.out A T xs _ _ hC.out (hS1.out.below G0) (hT.out.below G0) (runInts3 U 2 0 1 _ rfl)).mono fun e w' ⟨ea, ec, ra, rc, h1, h2, h3, h4⟩ => ⟨ea, ec, ra, rc, h1, h2, h3, grow_trans G0 h4⟩
  clear G0 CRA
  go_wp2_with fail
  refine KR.out.mono ?_
  clear KR
  rintro e u1 ⟨ea, ec, ra, rc, rfl, hEa, hRa, bu1⟩
  have hTu1 : Hid (IsTxs u1 (some ⟨T, 0, none⟩) xs) := hT.out.below bu1
  have Bu1 : Hid (Below w.heap.size w u1) := grow_trans B3.out bu1
  clear bu1 hT B3 hS1
  have G1 : Below u1.heap.size u1 (u1.alloc (.cells #[.int .i64 2, .int .i64 4, .int .i64 0, .int .i64 0, .int .i64 0, .int .i64 4, .int .i64 0, .int .i64 9] 3)) := grow_alloc (Below.refl _ _) _
  have K1 : Hid (Calls Tryz.prog 9 #[.slice ea 8 ec, .slice (some ⟨u1.heap.size, 0, none⟩) 8 8] (u1.alloc (.cells #[.int .i64 2, .int .i64 4, .int .i64 0, .int .i64 0, .int .i64 0, .int .i64 4, .int .i64 0, .int .i64 9] 3)) fun e w' => e = .returned (.bool true) ∧ Below u1.heap.size u1 w') := (SI.out [2, 4, 0, 0, 0, 4, 0, 9] ea _ ec 8 _ (by simp) (hEa.out.below G1) (runInts8 u1 2 4 0 0 0 4 0 9 _ rfl)).mono fun e w' ⟨h1, h2⟩ => ⟨h1, grow_trans G1 h2⟩
  clear G1 hEa
  go_wp2_with fail
  refine K1.out.mono ?_
  clear K1
  rintro e u2 ⟨rfl, bu2⟩
  have hTu2 : Hid (IsTxs u2 (some ⟨T, 0, none⟩) xs) := hTu1.out.below bu2
  have hRa2 : Hid (IsRes u2 ra [(true, [5, 1]), (true, [4]), (true, [])]) := hRa.out.below bu2
  have Bu2 : Hid (Below w.heap.size w u2) := grow_trans Bu1.out bu2
  clear bu2 hTu1 Bu1 hRa
  obtain ⟨b, off, va0, vc0, rfl, _, k0, k1, _⟩ := hRa2.out 0 (by simp)
  obtain ⟨b', off', va1, vc1, hbe, _, k2, k3, hI1⟩ := hRa2.out 1 (by simp)
  injection hbe with hbe
  injection hbe with r1 r2 _
  subst r1 r2
  simp at k0 k1 k2 k3
  have HI1 : Hid (IsInts u2 va1 [4]) := hI1
  clear hRa2 hI1 k1 k2
  have G2 : Below u2.heap.size u2 (u2.alloc (.cells #[.int .i64 4] 3)) := grow_alloc (Below.refl _ _) _
  have K2 : Hid (Calls Tryz.prog 9 #[.slice va1 1 vc1, .slice (some ⟨u2.heap.size, 0, none⟩) 1 1] (u2.alloc (.cells #[.int .i64 4] 3)) fun e w' => e = .returned (.bool true) ∧ Below u2.heap.size u2 w') := (SI.out [4] va1 _ vc1 1 _ (by simp) (HI1.out.below G2) (runInts1 u2 4 _ rfl)).mono fun e w' ⟨h1, h2⟩ => ⟨h1, grow_trans G2 h2⟩
  clear G2 HI1 SI
  go_wp2_with fail
  refine K2.out.mono ?_
  clear K2
  rintro e u3 ⟨rfl, bu3⟩
  have hTu3 : Hid (IsTxs u3 (some ⟨T, 0, none⟩) xs) := hTu2.out.below bu3
  have Bu3 : Hid (Below w.heap.size w u3) := grow_trans Bu2.out bu3
  clear bu3 hTu2 Bu2 k0 k3
  have CK := CKA.out A T
  have CK : Hid (∀ (picks : List Int) (k : Nat) (E : Int) (l : List TxA) (P : Option Addr) (w : World), picks.length = k → l.map TxA.core = three.map TxA.core → IsTxs w (some ⟨T, 0, none⟩) l → IsInts w P picks → ckE S8 three picks = E → Calls Tryz.prog 8 #[.slice (some ⟨A, 0, none⟩) 8 8, .slice (some ⟨T, 0, none⟩) 3 3, .slice P k k] w fun e w' => e = .returned (.int .i64 E) ∧ Below w.heap.size w w') := CK
  clear CKA
  have Gu4 : Below u3.heap.size u3 (u3.alloc (.cells #[.int .i64 1, .int .i64 0, .int .i64 2] 3)) := grow_alloc (Below.refl _ _) _
  have Ku4 : Hid (Calls Tryz.prog 8 #[.slice (some ⟨A, 0, none⟩) 8 8, .slice (some ⟨T, 0, none⟩) 3 3, .slice (some ⟨u3.heap.size, 0, none⟩) 3 3] (u3.alloc (.cells #[.int .i64 1, .int .i64 0, .int .i64 2] 3)) fun e w' => e = .returned (.int .i64 6) ∧ Below u3.heap.size u3 w') := (CK.out [1, 0, 2] 3 6 xs _ _ rfl hC.out (hTu3.out.below Gu4) (runInts3 u3 1 0 2 _ rfl) rb6).mono fun e w' ⟨h1, h2⟩ => ⟨h1, grow_trans Gu4 h2⟩
  clear Gu4
  go_wp2_with fail
  refine Ku4.out.mono ?_
  clear Ku4
  rintro e u4 ⟨rfl, bu4⟩
  have hTu4 : Hid (IsTxs u4 (some ⟨T, 0, none⟩) xs) := hTu3.out.below bu4
  have Bu4 : Hid (Below w.heap.size w u4) := grow_trans Bu3.out bu4
  clear bu4 hTu3 Bu3
  have Gu5 : Below u4.heap.size u4 (u4.alloc (.cells #[.int .i64 0, .int .i64 0] 3)) := grow_alloc (Below.refl _ _) _
  have Ku5 : Hid (Calls Tryz.prog 8 #[.slice (some ⟨A, 0, none⟩) 8 8, .slice (some ⟨T, 0, none⟩) 3 3, .slice (some ⟨u4.heap.size, 0, none⟩) 2 2] (u4.alloc (.cells #[.int .i64 0, .int .i64 0] 3)) fun e w' => e = .returned (.int .i64 7) ∧ Below u4.heap.size u4 w') := (CK.out [0, 0] 2 7 xs _ _ rfl hC.out (hTu4.out.below Gu5) (runInts2 u4 0 0 _ rfl) rb7).mono fun e w' ⟨h1, h2⟩ => ⟨h1, grow_trans Gu5 h2⟩
  clear Gu5
  go_wp2_with fail
  refine Ku5.out.mono ?_
  clear Ku5
  rintro e u5 ⟨rfl, bu5⟩
  have hTu5 : Hid (IsTxs u5 (some ⟨T, 0, none⟩) xs) := hTu4.out.below bu5
  have Bu5 : Hid (Below w.heap.size w u5) := grow_trans Bu4.out bu5
  clear bu5 hTu4 Bu4
  have Gu6 : Below u5.heap.size u5 (u5.alloc (.cells #[.int .i64 0] 3)) := grow_alloc (Below.refl _ _) _
  have Ku6 : Hid (Calls Tryz.prog 8 #[.slice (some ⟨A, 0, none⟩) 8 8, .slice (some ⟨T, 0, none⟩) 3 3, .slice (some ⟨u5.heap.size, 0, none⟩) 1 1] (u5.alloc (.cells #[.int .i64 0] 3)) fun e w' => e = .returned (.int .i64 8) ∧ Below u5.heap.size u5 w') := (CK.out [0] 1 8 xs _ _ rfl hC.out (hTu5.out.below Gu6) (runInts1 u5 0 _ rfl) rb8).mono fun e w' ⟨h1, h2⟩ => ⟨h1, grow_trans Gu6 h2⟩
  clear Gu6
  go_wp2_with fail
  refine Ku6.out.mono ?_
  clear Ku6
  rintro e u6 ⟨rfl, bu6⟩
  have hTu6 : Hid (IsTxs u6 (some ⟨T, 0, none⟩) xs) := hTu5.out.below bu6
  have Bu6 : Hid (Below w.heap.size w u6) := grow_trans Bu5.out bu6
  clear bu6 hTu5 Bu5
  have Gu7 : Below u6.heap.size u6 (u6.alloc (.cells #[.int .i64 3] 3)) := grow_alloc (Below.refl _ _) _
  have Ku7 : Hid (Calls Tryz.prog 8 #[.slice (some ⟨A, 0, none⟩) 8 8, .slice (some ⟨T, 0, none⟩) 3 3, .slice (some ⟨u6.heap.size, 0, none⟩) 1 1] (u6.alloc (.cells #[.int .i64 3] 3)) fun e w' => e = .returned (.int .i64 5) ∧ Below u6.heap.size u6 w') := (CK.out [3] 1 5 xs _ _ rfl hC.out (hTu6.out.below Gu7) (runInts1 u6 3 _ rfl) rb5).mono fun e w' ⟨h1, h2⟩ => ⟨h1, grow_trans Gu7 h2⟩
  clear Gu7
  go_wp2_with fail
  refine Ku7.out.mono ?_
  clear Ku7
  rintro e u7 ⟨rfl, bu7⟩
  have hTu7 : Hid (IsTxs u7 (some ⟨T, 0, none⟩) xs) := hTu6.out.below bu7
  have Bu7 : Hid (Below w.heap.size w u7) := grow_trans Bu6.out bu7
  clear bu7 hTu6 Bu6
  go_wp2
  go_ret
  exact ⟨rfl, Bu7.out⟩
end Go.Proofs.YtikolifbljnokaaGreat
