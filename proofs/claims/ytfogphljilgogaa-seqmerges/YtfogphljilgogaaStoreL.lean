/-
  The first look of the statements on stores (storeBegun) finds what it must.
  Conditions: none.
-/
import Derived.Test.YtfogphljilgogaaStoreK
import Derived.WalkKit
import Derived.WalkSpells
import Derived.WalkLawsBesides
import Derived.Defers
import Derived.Recover
import Derived.ProofKit
import Derived.Deep.RegionHeld
import Derived.Deep.RegionHeld3
import Derived.BigQuiet
namespace Go.Proofs.Ytfogphljilgogaa
open Go.RowKit

set_option maxRecDepth 100000 in
theorem some_of_ints {w : World} {a : Option Addr} {z : Int} {t : List Int} {c : Nat} (h : IsInts w a (z :: t)) : a = none → c = 0 := fun e => by
  obtain ⟨b, off, ha, _⟩ := h 0 (by simp)
  rw [e] at ha
  cases ha
set_option maxRecDepth 100000 in
theorem some_of_gs {w : World} {a : Option Addr} {z : Gd} {t : List Gd} {c : Nat} (h : IsGs w a (z :: t)) : a = none → c = 0 := fun e => by
  obtain ⟨b, off, ha, _⟩ := h 0 (by simp)
  rw [e] at ha
  cases ha
set_option maxRecDepth 100000 in
theorem some_of_ss {w : World} {a : Option Addr} {z : St} {t : List St} {c : Nat} (h : IsSs w a (z :: t)) : a = none → c = 0 := fun e => by
  obtain ⟨b, off, ha, _⟩ := h 0 (by simp)
  rw [e] at ha
  cases ha

set_option maxRecDepth 100000 in
theorem isTxs_three (w : World) (x y z : TxA) (n : Nat) (hn : n = w.heap.size) (hx : IsX w x) (hy : IsX w y) (hz : IsX w z) : IsTxs (w.alloc (.cells #[.slice x.ra x.rs.length x.rc, .slice x.ga x.gs.length x.gc, .slice x.sa x.ss.length x.sc, .slice y.ra y.rs.length y.rc, .slice y.ga y.gs.length y.gc, .slice y.sa y.ss.length y.sc, .slice z.ra z.rs.length z.rc, .slice z.ga z.gs.length z.gc, .slice z.sa z.ss.length z.sc] 26)) (some ⟨n, 0, none⟩) [x, y, z] := by
  subst hn
  intro i hi
  have hi3 : i < 3 := by simpa using hi
  match i, hi3 with
  | 0, _ => exact ⟨w.heap.size, 0, rfl, by simp, by simp, by simp, by simp, hx.below (grow_alloc (Below.refl _ _) _)⟩
  | 1, _ => exact ⟨w.heap.size, 0, rfl, by simp, by simp, by simp, by simp, hy.below (grow_alloc (Below.refl _ _) _)⟩
  | 2, _ => exact ⟨w.heap.size, 0, rfl, by simp, by simp, by simp, by simp, hz.below (grow_alloc (Below.refl _ _) _)⟩

set_option maxRecDepth 100000 in
theorem isInts_eight (w : World) (n : Nat) (a b c d e f g h : Int) (hn : n = w.heap.size) : IsInts (w.alloc (.cells #[.int .i64 a, .int .i64 b, .int .i64 c, .int .i64 d, .int .i64 e, .int .i64 f, .int .i64 g, .int .i64 h] 3)) (some ⟨n, 0, none⟩) [a, b, c, d, e, f, g, h] := by
  subst hn
  intro i hi
  have hi8 : i < 8 := by simpa using hi
  refine ⟨w.heap.size, 0, rfl, by simp, ?_⟩
  match i, hi8 with
  | 0, _ => simp
  | 1, _ => simp
  | 2, _ => simp
  | 3, _ => simp
  | 4, _ => simp
  | 5, _ => simp
  | 6, _ => simp
  | 7, _ => simp

def S0 : List Int := [5, 1, 0, 0, 0, 0, 0, 0]
def S7 : List Int := [5, 1, 0, 0, 0, 0, 0]
abbrev xPay (ra ga sa : Option Addr) (rc gc sc : Nat) : TxA := ⟨ra, ga, sa, rc, gc, sc, [0, 1], [gPay 3], [s1Pay 3, s2Pay 3]⟩
abbrev xNote (ra sa : Option Addr) (rc sc : Nat) : TxA := ⟨ra, none, sa, rc, 0, sc, [1], [], [sNote]⟩
section
variable (ra ga sa ra' ga' sa' ra2 sa2 : Option Addr) (rc gc sc rc' gc' sc' rc2 sc2 : Nat)
set_option maxRecDepth 100000 in
theorem begE1 : serE S0 [xPay ra ga sa rc gc sc] = 0 := by
  rw [serE_chk rfl, chkL_one]
  exact pE
set_option maxRecDepth 100000 in
theorem begF1 : apF S0 (xPay ra ga sa rc gc sc) = [2, 4, 0, 0, 0, 0, 0, 0] := by
  unfold apF
  rw [if_pos (begE1 ra ga sa rc gc sc)]
  show putAll S0 (keysOf [s1Pay 3, s2Pay 3]) (madeOf (rdOf S0 [0, 1]) [gPay 3] [s1Pay 3, s2Pay 3]) = _
  decide +kernel
set_option maxRecDepth 100000 in
theorem begD1 : apD S0 (xPay ra ga sa rc gc sc) = true := by
  unfold apD
  rw [if_pos (begE1 ra ga sa rc gc sc)]
  show allG (rdOf S0 [0, 1]) [gPay 3] = true
  decide +kernel
set_option maxRecDepth 100000 in
theorem begE3 : serE S0 [xPay ra ga sa rc gc sc, xPay ra' ga' sa' rc' gc' sc', xNote ra2 sa2 rc2 sc2] = 0 := by
  rw [serE_chk rfl]
  show firstNZ [chkTx [0, 1] [gPay 3] [s1Pay 3, s2Pay 3], chkTx [0, 1] [gPay 3] [s1Pay 3, s2Pay 3], chkTx [1] [] [sNote]] = 0
  rw [pE, nE]
  rfl
set_option maxRecDepth 100000 in
theorem begS3 : sEnd S0 [xPay ra ga sa rc gc sc, xPay ra' ga' sa' rc' gc' sc', xNote ra2 sa2 rc2 sc2] = [2, 4, 0, 0, 0, 4, 0, 0] := by
  unfold sEnd
  rw [if_pos (begE3 ra ga sa ra' ga' sa' ra2 sa2 rc gc sc rc' gc' sc' rc2 sc2)]
  have h1 : aEnd S0 (xPay ra ga sa rc gc sc) = [2, 4, 0, 0, 0, 0, 0, 0] := by
    show putAll S0 (keysOf [s1Pay 3, s2Pay 3]) (madeOf (rdOf S0 [0, 1]) [gPay 3] [s1Pay 3, s2Pay 3]) = _
    decide +kernel
  have h2 : aEnd [2, 4, 0, 0, 0, 0, 0, 0] (xPay ra' ga' sa' rc' gc' sc') = [2, 4, 0, 0, 0, 0, 0, 0] := by
    show putAll [2, 4, 0, 0, 0, 0, 0, 0] (keysOf [s1Pay 3, s2Pay 3]) (madeOf (rdOf [2, 4, 0, 0, 0, 0, 0, 0] [0, 1]) [gPay 3] [s1Pay 3, s2Pay 3]) = _
    decide +kernel
  have h3 : aEnd [2, 4, 0, 0, 0, 0, 0, 0] (xNote ra2 sa2 rc2 sc2) = [2, 4, 0, 0, 0, 4, 0, 0] := by
    show putAll [2, 4, 0, 0, 0, 0, 0, 0] (keysOf [sNote]) (madeOf (rdOf [2, 4, 0, 0, 0, 0, 0, 0] [1]) [] [sNote]) = _
    decide +kernel
  simp only [serEnd, h1, h2, h3]
set_option maxRecDepth 100000 in
theorem begR3 : sRes S0 [xPay ra ga sa rc gc sc, xPay ra' ga' sa' rc' gc' sc', xNote ra2 sa2 rc2 sc2] = [(true, [5, 1]), (false, [2, 4]), (true, [4])] := by
  unfold sRes
  rw [if_pos (begE3 ra ga sa ra' ga' sa' ra2 sa2 rc gc sc rc' gc' sc' rc2 sc2)]
  have h1 : aEnd S0 (xPay ra ga sa rc gc sc) = [2, 4, 0, 0, 0, 0, 0, 0] := by
    show putAll S0 (keysOf [s1Pay 3, s2Pay 3]) (madeOf (rdOf S0 [0, 1]) [gPay 3] [s1Pay 3, s2Pay 3]) = _
    decide +kernel
  have h2 : aEnd [2, 4, 0, 0, 0, 0, 0, 0] (xPay ra' ga' sa' rc' gc' sc') = [2, 4, 0, 0, 0, 0, 0, 0] := by
    show putAll [2, 4, 0, 0, 0, 0, 0, 0] (keysOf [s1Pay 3, s2Pay 3]) (madeOf (rdOf [2, 4, 0, 0, 0, 0, 0, 0] [0, 1]) [gPay 3] [s1Pay 3, s2Pay 3]) = _
    decide +kernel
  have d1 : aDone S0 (xPay ra ga sa rc gc sc) = true := by
    show allG (rdOf S0 [0, 1]) [gPay 3] = true
    decide +kernel
  have d2 : aDone [2, 4, 0, 0, 0, 0, 0, 0] (xPay ra' ga' sa' rc' gc' sc') = false := by
    show allG (rdOf [2, 4, 0, 0, 0, 0, 0, 0] [0, 1]) [gPay 3] = false
    decide +kernel
  have d3 : aDone [2, 4, 0, 0, 0, 0, 0, 0] (xNote ra2 sa2 rc2 sc2) = true := rfl
  simp only [serRes, h1, h2, d1, d2, d3]
  rfl
end
set_option maxRecDepth 100000 in
theorem beg7 : serE S7 [] = 1 := rfl

theorem isInts_take {w : World} {a : Option Addr} {l : List Int} (h : IsInts w a l) (n : Nat) : IsInts w a (l.take n) := fun i hi => by
  have hl : i < l.length := by rw [List.length_take] at hi; omega
  obtain ⟨b, off, ha, hb, hc⟩ := h i hl
  refine ⟨b, off, ha, hb, ?_⟩
  rw [hc]
  have hn : i < n := by rw [List.length_take] at hi; omega
  simp [List.getD, hn]

set_option maxRecDepth 100000 in
set_option maxHeartbeats 4000000 in
theorem storeBegun_any (w : World) : Calls Try.prog 13 #[] w fun e w' => e = .returned (.bool true) ∧ Below w.heap.size w w' := by
  go_enter Try.func13, Try.ntmps13
  go_wp2_with fail
  have hi0 : Hid (IsInts (w.alloc (.cells #[.int .i64 5, .int .i64 1, .int .i64 0, .int .i64 0, .int .i64 0, .int .i64 0, .int .i64 0, .int .i64 0] 3)) (some ⟨w.heap.size, 0, none⟩) S0) := isInts_eight w _ _ _ _ _ _ _ _ _ rfl
  have hc0 : (w.alloc (.cells #[.int .i64 5, .int .i64 1, .int .i64 0, .int .i64 0, .int .i64 0, .int .i64 0, .int .i64 0, .int .i64 0] 3)).cell? ⟨w.heap.size, 0, none⟩ = some (.int .i64 5) := by simp
  have B0 : Hid (Below w.heap.size w (w.alloc (.cells #[.int .i64 5, .int .i64 1, .int .i64 0, .int .i64 0, .int .i64 0, .int .i64 0, .int .i64 0, .int .i64 0] 3))) := grow_alloc (Below.refl _ _) _
  generalize (w.alloc (.cells #[.int .i64 5, .int .i64 1, .int .i64 0, .int .i64 0, .int .i64 0, .int .i64 0, .int .i64 0, .int .i64 0] 3)) = W0 at *
  refine (pay_any 3 _).mono ?_
  rintro e w1 ⟨ra, ga, sa, rc, gc, sc, rfl, ht1, hb1⟩
  have hx1 : Hid (IsX w1 (xPay ra ga sa rc gc sc)) := ⟨ht1, some_of_ints ht1.r, some_of_gs ht1.g, some_of_ss ht1.s⟩
  clear ht1
  go_wp2_with fail
  refine (storeApply_any (some ⟨w.heap.size, 0, none⟩) 8 S0 ra ga sa rc gc sc [0, 1] [gPay 3] [s1Pay 3, s2Pay 3] _ (hi0.out.below hb1) hx1.out).mono ?_
  rintro e w2 ⟨ea, ec, va, vc, rfl, hea, hva, hb2⟩
  rw [begF1] at hea ⊢
  rw [begD1, begE1]
  clear hva hx1
  generalize apV S0 (xPay ra ga sa rc gc sc) = A at *
  have U3 : Below w2.heap.size w2 (w2.alloc (.cells #[.bool true, .slice va A.length vc] 28)) := grow_alloc (Below.refl _ _) _
  have r0 : (w2.alloc (.cells #[.bool true, .slice va A.length vc] 28)).cell? ⟨w2.heap.size, 0, none⟩ = some (.bool true) := by simp
  have B3 : Hid (Below W0.heap.size W0 (w2.alloc (.cells #[.bool true, .slice va A.length vc] 28))) := grow_trans (grow_trans hb1 hb2) U3
  have hea3 : Hid (IsInts (w2.alloc (.cells #[.bool true, .slice va A.length vc] 28)) ea [2, 4, 0, 0, 0, 0, 0, 0]) := hea.below U3
  clear hb1 hb2 U3 hea
  go_wp2_with fail
  generalize (w2.alloc (.cells #[.bool true, .slice va A.length vc] 28)) = W3 at *
  generalize w2.heap.size = R at *
  refine (pay_any 3 _).mono ?_
  rintro e w4 ⟨ra4, ga4, sa4, rc4, gc4, sc4, rfl, ht4, hb4⟩
  have hx4 : Hid (IsX w4 (xPay ra4 ga4 sa4 rc4 gc4 sc4)) := ⟨ht4, some_of_ints ht4.r, some_of_gs ht4.g, some_of_ss ht4.s⟩
  clear ht4
  go_wp2_with fail
  refine (pay_any 3 _).mono ?_
  rintro e w5 ⟨ra5, ga5, sa5, rc5, gc5, sc5, rfl, ht5, hb5⟩
  have hx5 : Hid (IsX w5 (xPay ra5 ga5 sa5 rc5 gc5 sc5)) := ⟨ht5, some_of_ints ht5.r, some_of_gs ht5.g, some_of_ss ht5.s⟩
  clear ht5
  go_wp2_with fail
  refine (note_any _).mono ?_
  rintro e w6 ⟨ra6, sa6, rc6, sc6, rfl, ht6, hb6⟩
  have hx6 : Hid (IsX w6 (xNote ra6 sa6 rc6 sc6)) := ⟨ht6, some_of_ints ht6.r, fun _ => rfl, some_of_ss ht6.s⟩
  clear ht6
  have B6 : Hid (Below W3.heap.size W3 w6) := grow_trans (grow_trans hb4 hb5) hb6
  have hl6 : Hid (IsTxs (w6.alloc (.cells #[.slice ra4 2 rc4, .slice ga4 1 gc4, .slice sa4 2 sc4, .slice ra5 2 rc5, .slice ga5 1 gc5, .slice sa5 2 sc5, .slice ra6 1 rc6, .slice none 0 0, .slice sa6 1 sc6] 26)) (some ⟨w6.heap.size, 0, none⟩) [xPay ra4 ga4 sa4 rc4 gc4 sc4, xPay ra5 ga5 sa5 rc5 gc5 sc5, xNote ra6 sa6 rc6 sc6]) := isTxs_three w6 (xPay ra4 ga4 sa4 rc4 gc4 sc4) (xPay ra5 ga5 sa5 rc5 gc5 sc5) (xNote ra6 sa6 rc6 sc6) _ rfl (hx4.out.below (grow_trans hb5 hb6)) (hx5.out.below hb6) hx6.out
  clear hb4 hb5 hb6 hx4 hx5 hx6
  go_wp2_with fail
  have U7 : Below w6.heap.size w6 (w6.alloc (.cells #[.slice ra4 2 rc4, .slice ga4 1 gc4, .slice sa4 2 sc4, .slice ra5 2 rc5, .slice ga5 1 gc5, .slice sa5 2 sc5, .slice ra6 1 rc6, .slice none 0 0, .slice sa6 1 sc6] 26)) := grow_alloc (Below.refl _ _) _
  refine (serial_any (some ⟨w.heap.size, 0, none⟩) (some ⟨w6.heap.size, 0, none⟩) 8 3 S0 [xPay ra4 ga4 sa4 rc4 gc4 sc4, xPay ra5 ga5 sa5 rc5 gc5 sc5, xNote ra6 sa6 rc6 sc6] _ (hi0.out.below (grow_trans B3.out (grow_trans B6.out U7))) hl6.out).mono ?_
  rintro e w7 ⟨eb, ebc, xa, xc, rfl, hso, hb7⟩
  rw [begS3, begR3] at hso ⊢
  rw [begE3]
  have B7 : Hid (Below W3.heap.size W3 w7) := grow_trans B6.out (grow_trans U7 hb7)
  have heb : Hid (IsInts w7 eb [2, 4, 0, 0, 0, 4, 0, 0]) := hso.ints
  obtain ⟨b, off, _, _, rfl, _, x1, _, _⟩ := hso.res 1 (by simp)
  obtain ⟨b', off', _, _, he', _, x2, _, _⟩ := hso.res 2 (by simp)
  injection he' with he'
  injection he' with e1 e2 _
  subst e1 e2
  simp only [List.getD_cons_succ, List.getD_cons_zero] at x1 x2
  clear hso hb7 U7 hl6 B6
  go_wp2_with fail
  refine (serial_any (some ⟨w.heap.size, 0, none⟩) none 8 0 S7 [] _ (isInts_take (hi0.out.below (grow_trans B3.out B7.out)) 7) (fun i hi => absurd hi (by simp))).mono ?_
  rintro e w8 ⟨ea8, ec8, xa8, xc8, rfl, _, hb8⟩
  rw [beg7]
  have z1 := ext_cell hb8 x1
  have z2 := ext_cell hb8 x2
  have B8 : Hid (Below W3.heap.size W3 w8) := grow_trans B7.out hb8
  have z0 := ext_cell B8.out r0
  have heb8 : Hid (IsInts w8 eb [2, 4, 0, 0, 0, 4, 0, 0]) := heb.out.below hb8
  have hea8 : Hid (IsInts w8 ea [2, 4, 0, 0, 0, 0, 0, 0]) := hea3.out.below B8.out
  have hc8 := ext_cell (grow_trans B3.out B8.out) hc0
  clear hb8 x1 x2 r0 hc0 heb hea3 B7
  go_wp2_with fail
  refine (storeCheck_any S0 (some ⟨w.heap.size, 0, none⟩) 8 _).mono ?_
  rintro e w' ⟨rfl, hw'⟩
  rw [hw', if_pos (show S0.length = 8 from rfl)]
  clear hw' w'
  go_wp2_with fail
  refine (storeCheck_any [] none 0 _).mono ?_
  rintro e w' ⟨rfl, hw'⟩
  rw [hw', if_neg (show ¬ ([] : List Int).length = 8 by decide)]
  clear hw' w'
  go_wp2_with fail
  refine (sameInts_any [2, 4, 0, 0, 0, 0, 0, 0] [2, 4, 0, 0, 0, 0, 0, 0] ea _ ec 8 _ (by decide) (hea8.out.below (grow_alloc (Below.refl _ _) _)) (isInts_eight _ _ _ _ _ _ _ _ _ _ rfl)).mono ?_
  rintro e w9 ⟨rfl, hb9⟩
  have U9 : Below w8.heap.size w8 w9 := grow_trans (grow_alloc (Below.refl _ _) _) hb9
  have y0 := ext_cell U9 z0
  have y1 := ext_cell U9 z1
  have y2 := ext_cell U9 z2
  have yc := ext_cell U9 hc8
  have heb9 : Hid (IsInts w9 eb [2, 4, 0, 0, 0, 4, 0, 0]) := heb8.out.below U9
  have B9 : Hid (Below W3.heap.size W3 w9) := grow_trans B8.out U9
  clear hb9 U9 z0 z1 z2 hc8 heb8 hea8 B8
  go_wp2_with fail
  refine (sameInts_any [2, 4, 0, 0, 0, 4, 0, 0] [2, 4, 0, 0, 0, 4, 0, 0] eb _ ebc 8 _ (by decide) (heb9.out.below (grow_alloc (Below.refl _ _) _)) (isInts_eight _ _ _ _ _ _ _ _ _ _ rfl)).mono ?_
  rintro e w10 ⟨rfl, hb10⟩
  have U10 : Below w9.heap.size w9 w10 := grow_trans (grow_alloc (Below.refl _ _) _) hb10
  have v0 := ext_cell U10 y0
  have v1 := ext_cell U10 y1
  have v2 := ext_cell U10 y2
  have vc' := ext_cell U10 yc
  have B10 : Hid (Below w.heap.size w w10) := grow_trans (grow_trans B0.out B3.out) (grow_trans B9.out U10)
  clear hb10 U10 y0 y1 y2 yc heb9 B9
  go_wp2
  go_ret
  exact ⟨rfl, B10.out⟩
end Go.Proofs.Ytfogphljilgogaa
