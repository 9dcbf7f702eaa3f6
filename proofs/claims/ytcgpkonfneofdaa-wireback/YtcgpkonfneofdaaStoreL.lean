/-
  The first look of the statements on stores (storeBegun) finds what it must.
  Conditions: none.
-/
import Derived.Test.YtcgpkonfneofdaaStoreK
import Derived.WalkKit
import Derived.WalkSpells
import Derived.WalkLawsBesides
import Derived.Defers
import Derived.Recover
import Derived.ProofKit
import Derived.Deep.RegionHeld
import Derived.Deep.RegionHeld3
import Derived.BigQuiet
namespace Go.Proofs.Ytcgpkonfneofdaa
open Go.RowKit

set_option maxRecDepth 100000 in
theorem some_of_ints {w : World} {a : Option Addr} {z : Int} {t : List Int} {c : Nat} (h : IsInts w a (z :: t)) : a = none → c = 0 := fun e => by
  obtain ⟨b, off, ha, _⟩ := h 0 (by simp)
  rw [e] at ha
  cases ha
set_option maxRecDepth 100000 in
theorem some_of_gs {w : World} {a : Option Addr} {z : Gd} {t : List Gd} {c : Nat} (h : IsGs w a (z :: t)) : a = none → c = 0 := fun e => by
  obtain ⟨b, off, ha, _⟩ := h 0 (by simp)
  rw [e] at ha
  cases ha
set_option maxRecDepth 100000 in
theorem some_of_ss {w : World} {a : Option Addr} {z : St} {t : List St} {c : Nat} (h : IsSs w a (z :: t)) : a = none → c = 0 := fun e => by
  obtain ⟨b, off, ha, _⟩ := h 0 (by simp)
  rw [e] at ha
  cases ha

set_option maxRecDepth 100000 in
theorem isTxs_three (w : World) (x y z : TxA) (n : Nat) (hn : n = w.heap.size) (hx : IsX w x) (hy : IsX w y) (hz : IsX w z) : IsTxs (w.alloc (.cells #[.slice x.ra x.rs.length x.rc, .slice x.ga x.gs.length x.gc, .slice x.sa x.ss.length x.sc, .slice y.ra y.rs.length y.rc, .slice y.ga y.gs.length y.gc, .slice y.sa y.ss.length y.sc, .slice z.ra z.rs.length z.rc, .slice z.ga z.gs.length z.gc, .slice z.sa z.ss.length z.sc] 38)) (some ⟨n, 0, none⟩) [x, y, z] := by
  subst hn
  intro i hi
  have hi3 : i < 3 := by simpa using hi
  match i, hi3 with
  | 0, _ => exact ⟨w.heap.size, 0, rfl, by simp, by simp, by simp, by simp, hx.below (grow_alloc (Below.refl _ _) _)⟩
  | 1, _ => exact ⟨w.heap.size, 0, rfl, by simp, by simp, by simp, by simp, hy.below (grow_alloc (Below.refl _ _) _)⟩
  | 2, _ => exact ⟨w.heap.size, 0, rfl, by simp, by simp, by simp, by simp, hz.below (grow_alloc (Below.refl _ _) _)⟩

set_option maxRecDepth 100000 in
theorem isInts_eight (w : World) (n : Nat) (a b c d e f g h : Int) (hn : n = w.heap.size) : IsInts (w.alloc (.cells #[.int .i64 a, .int .i64 b, .int .i64 c, .int .i64 d, .int .i64 e, .int .i64 f, .int .i64 g, .int .i64 h] 3)) (some ⟨n, 0, none⟩) [a, b, c, d, e, f, g, h] := by
  subst hn
  intro i hi
  have hi8 : i < 8 := by simpa using hi
  refine ⟨w.heap.size, 0, rfl, by simp, ?_⟩
  match i, hi8 with
  | 0, _ => simp
  | 1, _ => simp
  | 2, _ => simp
  | 3, _ => simp
  | 4, _ => simp
  | 5, _ => simp
  | 6, _ => simp
  | 7, _ => simp

def S0 : List Int := [5, 1, 0, 0, 0, 0, 0, 0]
def S7 : List Int := [5, 1, 0, 0, 0, 0, 0]
abbrev xPay (ra ga sa : Option Addr) (rc gc sc : Nat) : TxA := ⟨ra, ga, sa, rc, gc, sc, [0, 1], [gPay 3], [s1Pay 3, s2Pay 3]⟩
abbrev xNote (ra sa : Option Addr) (rc sc : Nat) : TxA := ⟨ra, none, sa, rc, 0, sc, [1], [], [sNote]⟩
section
variable (ra ga sa ra' ga' sa' ra2 sa2 : Option Addr) (rc gc sc rc' gc' sc' rc2 sc2 : Nat)
set_option maxRecDepth 100000 in
theorem begE1 : serE S0 [xPay ra ga sa rc gc sc] = 0 := by
  rw [serE_chk rfl, chkL_one]
  exact pE
set_option maxRecDepth 100000 in
theorem begF1 : apF S0 (xPay ra ga sa rc gc sc) = [2, 4, 0, 0, 0, 0, 0, 0] := by
  unfold apF
  rw [if_pos (begE1 ra ga sa rc gc sc)]
  show putAll S0 (keysOf [s1Pay 3, s2Pay 3]) (madeOf (rdOf S0 [0, 1]) [gPay 3] [s1Pay 3, s2Pay 3]) = _
  decide +kernel
set_option maxRecDepth 100000 in
theorem begD1 : apD S0 (xPay ra ga sa rc gc sc) = true := by
  unfold apD
  rw [if_pos (begE1 ra ga sa rc gc sc)]
  show allG (rdOf S0 [0, 1]) [gPay 3] = true
  decide +kernel
set_option maxRecDepth 100000 in
theorem begE3 : serE S0 [xPay ra ga sa rc gc sc, xPay ra' ga' sa' rc' gc' sc', xNote ra2 sa2 rc2 sc2] = 0 := by
  rw [serE_chk rfl]
  show firstNZ [chkTx [0, 1] [gPay 3] [s1Pay 3, s2Pay 3], chkTx [0, 1] [gPay 3] [s1Pay 3, s2Pay 3], chkTx [1] [] [sNote]] = 0
  rw [pE, nE]
  rfl
set_option maxRecDepth 100000 in
theorem begS3 : sEnd S0 [xPay ra ga sa rc gc sc, xPay ra' ga' sa' rc' gc' sc', xNote ra2 sa2 rc2 sc2] = [2, 4, 0, 0, 0, 4, 0, 0] := by
  unfold sEnd
  rw [if_pos (begE3 ra ga sa ra' ga' sa' ra2 sa2 rc gc sc rc' gc' sc' rc2 sc2)]
  have h1 : aEnd S0 (xPay ra ga sa rc gc sc) = [2, 4, 0, 0, 0, 0, 0, 0] := by
    show putAll S0 (keysOf [s1Pay 3, s2Pay 3]) (madeOf (rdOf S0 [0, 1]) [gPay 3] [s1Pay 3, s2Pay 3]) = _
    decide +kernel
  have h2 : aEnd [2, 4, 0, 0, 0, 0, 0, 0] (xPay ra' ga' sa' rc' gc' sc') = [2, 4, 0, 0, 0, 0, 0, 0] := by
    show putAll [2, 4, 0, 0, 0, 0, 0, 0] (keysOf [s1Pay 3, s2Pay 3]) (madeOf (rdOf [2, 4, 0, 0, 0, 0, 0, 0] [0, 1]) [gPay 3] [s1Pay 3, s2Pay 3]) = _
    decide +kernel
  have h3 : aEnd [2, 4, 0, 0, 0, 0, 0, 0] (xNote ra2 sa2 rc2 sc2) = [2, 4, 0, 0, 0, 4, 0, 0] := by
    show putAll [2, 4, 0, 0, 0, 0, 0, 0] (keysOf [sNote]) (madeOf (rdOf [2, 4, 0, 0, 0, 0, 0, 0] [1]) [] [sNote]) = _
    decide +kernel
  simp only [serEnd, h1, h2, h3]
set_option maxRecDepth 100000 in
theorem begR3 : sRes S0 [xPay ra ga sa rc gc sc, xPay ra' ga' sa' rc' gc' sc', xNote ra2 sa2 rc2 sc2] = [(true, [5, 1]), (false, [2, 4]), (true, [4])] := by
  unfold sRes
  rw [if_pos (begE3 ra ga sa ra' ga' sa' ra2 sa2 rc gc sc rc' gc' sc' rc2 sc2)]
  have h1 : aEnd S0 (xPay ra ga sa rc gc sc) = [2, 4, 0, 0, 0, 0, 0, 0] := by
    show putAll S0 (keysOf [s1Pay 3, s2Pay 3]) (madeOf (rdOf S0 [0, 1]) [gPay 3] [s1Pay 3, s2Pay 3]) = _
    decide +kernel
  have h2 : aEnd [2, 4, 0, 0, 0, 0, 0, 0] (xPay ra' ga' sa' rc' gc' sc') = [2, 4, 0, 0, 0, 0, 0, 0] := by
    show putAll [2, 4, 0, 0, 0, 0, 0, 0] (keysOf [s1Pay 3, s2Pay 3]) (madeOf (rdOf [2, 4, 0, 0, 0, 0, 0, 0] [0, 1]) [gPay 3] [s1Pay 3, s2Pay 3]) = _
    decide +kernel
  have d1 : aDone S0 (xPay ra ga sa rc gc sc) = true := by
    show allG (rdOf S0 [0, 1]) [gPay 3] = true
    decide +kernel
  have d2 : aDone [2, 4, 0, 0, 0, 0, 0, 0] (xPay ra' ga' sa' rc' gc' sc') = false := by
    show allG (rdOf [2, 4, 0, 0, 0, 0, 0, 0] [0, 1]) [gPay 3] = false
    decide +kernel
  have d3 : aDone [2, 4, 0, 0, 0, 0, 0, 0] (xNote ra2 sa2 rc2 sc2) = true := rfl
  simp only [serRes, h1, h2, d1, d2, d3]
  rfl
end
set_option maxRecDepth 100000 in
theorem beg7 : serE S7 [] = 1 := rfl

theorem isInts_take {w : World} {a : Option Addr} {l : List Int} (h : IsInts w a l) (n : Nat) : IsInts w a (l.take n) := fun i hi => by
  have hl : i < l.length := by rw [List.length_take] at hi; omega
  obtain ⟨b, off, ha, hb, hc⟩ := h i hl
  refine ⟨b, off, ha, hb, ?_⟩
  rw [hc]
  have hn : i < n := by rw [List.length_take] at hi; omega
  simp [List.getD, hn]

end Go.Proofs.Ytcgpkonfneofdaa
