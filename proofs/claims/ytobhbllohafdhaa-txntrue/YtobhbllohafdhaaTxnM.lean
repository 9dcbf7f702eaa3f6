/-
  The first look of the statements on transactions (txnBegun) finds what it must.
  Conditions: none.
-/
import Derived.Test.YtobhbllohafdhaaTxnK
import Derived.Test.YtobhbllohafdhaaTxnG
import Derived.WalkKit
import Derived.WalkSpells
import Derived.WalkLawsBesides
import Derived.Defers
import Derived.Recover
import Derived.ProofKit
import Derived.Deep.RegionHeld
import Derived.Deep.RegionHeld3
import Derived.BigQuiet
namespace Go.Proofs.Ytobhbllohafdhaa
open Go.RowKit

def sNote : St := ⟨5, 1, 2, 0, 1, 0⟩
def gPay (n : Int) : Gd := ⟨4, 1, n, 2, 0⟩
def s1Pay (n : Int) : St := ⟨0, 3, 2, 0, 1, n⟩
def s2Pay (n : Int) : St := ⟨1, 2, 2, 1, 1, n⟩

theorem isInts_one (w : World) (s : Nat) (x : Int) (hs : s = w.heap.size) : IsInts (w.alloc (.cells #[.int .i64 x] 3)) (some ⟨s, 0, none⟩) [x] := by
  subst hs
  intro i hi
  refine ⟨w.heap.size, 0, rfl, by simp, ?_⟩
  match i, hi with
  | 0, _ => simp

theorem isSs_one (w : World) (s : Nat) (a b c d e f : Int) (hs : s = w.heap.size) : IsSs (w.alloc (.cells #[.int .i64 a, .int .i64 b, .int .i64 c, .int .i64 d, .int .i64 e, .int .i64 f] 76)) (some ⟨s, 0, none⟩) [⟨a, b, c, d, e, f⟩] := by
  subst hs
  intro i hi
  refine ⟨w.heap.size, 0, rfl, by simp, ?_⟩
  match i, hi with
  | 0, _ => simp

theorem isSs_two (w : World) (s : Nat) (a b c d e f a' b' c' d' e' f' : Int) (hs : s = w.heap.size) : IsSs (w.alloc (.cells #[.int .i64 a, .int .i64 b, .int .i64 c, .int .i64 d, .int .i64 e, .int .i64 f, .int .i64 a', .int .i64 b', .int .i64 c', .int .i64 d', .int .i64 e', .int .i64 f'] 76)) (some ⟨s, 0, none⟩) [⟨a, b, c, d, e, f⟩, ⟨a', b', c', d', e', f'⟩] := by
  subst hs
  intro i hi
  refine ⟨w.heap.size, 0, rfl, by simp, ?_⟩
  match i, hi with
  | 0, _ => simp
  | 1, _ => simp

theorem isGs_one (w : World) (s : Nat) (a b c d e : Int) (hs : s = w.heap.size) : IsGs (w.alloc (.cells #[.int .i64 a, .int .i64 b, .int .i64 c, .int .i64 d, .int .i64 e] 58)) (some ⟨s, 0, none⟩) [⟨a, b, c, d, e⟩] := by
  subst hs
  intro i hi
  refine ⟨w.heap.size, 0, rfl, by simp, ?_⟩
  match i, hi with
  | 0, _ => simp

set_option maxHeartbeats 1000000 in
theorem note_any (w : World) : Calls Try.prog 42 #[] w fun e w' => ∃ ra sa rc sc, e = .returned (.agg #[.slice ra ([1] : List Int).length rc, .slice none ([] : List Gd).length 0, .slice sa [sNote].length sc]) ∧ IsTx w' ra none sa [1] [] [sNote] ∧ Below w.heap.size w w' := by
  go_enter Try.func42, Try.ntmps42
  go_wp2_with fail
  refine (lawValue_any 0 _).mono ?_
  rintro e w' ⟨rfl, rfl⟩
  go_wp2_with fail
  refine (lawNumber_any 0 _).mono ?_
  rintro e w' ⟨rfl, rfl⟩
  go_wp2
  refine bodyPost_ret (v := .agg #[.slice (some ⟨w.heap.size + 1, 0, none⟩) 1 1, .slice none 0 0, .slice (some ⟨w.heap.size + 1 + 1 + 1 + 1, 0, none⟩) 1 1]) ?_ rfl ⟨_, _, _, _, rfl, ⟨?_, ?_, ?_, by decide, by decide, by decide⟩, ?_⟩
  · simp [results, Try.results42, go_sem]
  · generalize Obj.cells #[_, _, _] 40 = O0
    exact (isInts_one (w.alloc O0) (w.heap.size + 1) 1 (by simp)).below (by repeat (first | assumption | exact Below.refl _ _ | refine grow_drew ?_ | refine grow_alloc ?_ _ | refine grow_trans ?_ (by assumption)))
  · exact fun i hi => absurd hi (by simp)
  · exact isSs_one _ _ _ _ _ _ _ _ (by simp)
  · repeat (first | assumption | exact Below.refl _ _ | refine grow_drew ?_ | refine grow_alloc ?_ _ | refine grow_trans ?_ (by assumption))

set_option maxRecDepth 100000 in
set_option maxHeartbeats 1000000 in
theorem pay_any (n : Int) (w : World) : Calls Try.prog 43 #[.int .i64 n] w fun e w' => ∃ ra ga sa rc gc sc, e = .returned (.agg #[.slice ra ([0, 1] : List Int).length rc, .slice ga [gPay n].length gc, .slice sa [s1Pay n, s2Pay n].length sc]) ∧ IsTx w' ra ga sa [0, 1] [gPay n] [s1Pay n, s2Pay n] ∧ Below w.heap.size w w' := by
  go_enter Try.func43, Try.ntmps43
  go_wp2_with fail
  refine (lawNumber_any n _).mono ?_
  rintro e w' ⟨rfl, rfl⟩
  go_wp2_with fail
  refine (lawValue_any 0 _).mono ?_
  rintro e w' ⟨rfl, rfl⟩
  go_wp2_with fail
  refine (lawValue_any 0 _).mono ?_
  rintro e w' ⟨rfl, rfl⟩
  go_wp2_with fail
  refine (lawNumber_any n _).mono ?_
  rintro e w' ⟨rfl, rfl⟩
  go_wp2_with fail
  refine (lawValue_any 1 _).mono ?_
  rintro e w' ⟨rfl, rfl⟩
  go_wp2_with fail
  refine (lawNumber_any n _).mono ?_
  rintro e w' ⟨rfl, rfl⟩
  go_wp2
  refine bodyPost_ret (v := .agg #[.slice (some ⟨w.heap.size + 1, 0, none⟩) 2 2, .slice (some ⟨w.heap.size + 1 + 1 + 1 + 1, 0, none⟩) 1 1, .slice (some ⟨w.heap.size + 1 + 1 + 1 + 1 + 1 + 1 + 1 + 1 + 1, 0, none⟩) 2 2]) ?_ rfl ⟨_, _, _, _, _, _, rfl, ⟨?_, ?_, ?_, by simp [maxLen], by simp [maxLen], by simp [maxLen]⟩, ?_⟩
  · simp [results, Try.results43, go_sem]
  · generalize Obj.cells #[_, _, _] 40 = O0
    exact (isInts_two (w.alloc O0) (w.heap.size + 1) 0 1 (by simp)).below (by repeat (first | assumption | exact Below.refl _ _ | refine grow_drew ?_ | refine grow_alloc ?_ _ | refine grow_trans ?_ (by assumption)))
  · generalize Obj.cells #[_, _, _] 40 = O0
    exact (isGs_one ((((w.alloc O0).alloc (.cells #[.int .i64 0, .int .i64 1] 3)).alloc (.cells #[.int .i64 1, .int .i64 n] 23)).alloc (.cells #[.int .i64 2, .int .i64 0] 23)) (w.heap.size + 1 + 1 + 1 + 1) 4 1 n 2 0 (by simp)).below (by repeat (first | assumption | exact Below.refl _ _ | refine grow_drew ?_ | refine grow_alloc ?_ _ | refine grow_trans ?_ (by assumption)))
  · exact isSs_two _ _ _ _ _ _ _ _ _ _ _ _ _ _ (by simp)
  · repeat (first | assumption | exact Below.refl _ _ | refine grow_drew ?_ | refine grow_alloc ?_ _ | refine grow_trans ?_ (by assumption))

theorem nE : chkTx [1] [] [sNote] = 0 := by decide
theorem nL : lksOf [1] [] [sNote] = [(1, false), (5, true)] := by decide
theorem pE : chkTx [0, 1] [gPay 3] [s1Pay 3, s2Pay 3] = 0 := by decide
theorem xE : chkTx [1, 0] [gPay 3] [s1Pay 3, s2Pay 3] = 1 := by decide
theorem eE : chkTx [] [] [] = 2 := by decide
theorem aE : runE [0, 1] [gPay 3] [s1Pay 3, s2Pay 3] [5, 1] = 0 := by decide
theorem aD : runD [0, 1] [gPay 3] [s1Pay 3, s2Pay 3] [5, 1] = true := by decide
theorem aV : runV [0, 1] [gPay 3] [s1Pay 3, s2Pay 3] [5, 1] = [5, 1] := by decide
theorem aM : runM [0, 1] [gPay 3] [s1Pay 3, s2Pay 3] [5, 1] = [2, 4] := by decide +kernel
theorem bE : runE [0, 1] [gPay 3] [s1Pay 3, s2Pay 3] [2, 1] = 0 := by decide
theorem bD : runD [0, 1] [gPay 3] [s1Pay 3, s2Pay 3] [2, 1] = false := by decide
theorem bV : runV [0, 1] [gPay 3] [s1Pay 3, s2Pay 3] [2, 1] = [2, 1] := by decide
theorem bM : runM [0, 1] [gPay 3] [s1Pay 3, s2Pay 3] [2, 1] = [] := by decide
theorem cE : runE [0, 1] [gPay 3] [s1Pay 3, s2Pay 3] [2] = 3 := by decide
theorem cD : runD [0, 1] [gPay 3] [s1Pay 3, s2Pay 3] [2] = false := by decide
theorem cV : runV [0, 1] [gPay 3] [s1Pay 3, s2Pay 3] [2] = [] := by decide
theorem cM : runM [0, 1] [gPay 3] [s1Pay 3, s2Pay 3] [2] = [] := by decide

set_option maxRecDepth 100000 in
set_option maxHeartbeats 4000000 in
theorem txnBegun_any (w : World) : Calls Try.prog 21 #[] w fun e w' => e = .returned (.bool true) ∧ Below w.heap.size w w' := by
  go_enter Try.func21, Try.ntmps21
  go_wp2_with fail
  refine (note_any _).mono ?_
  rintro e w1 ⟨ra, sa, rc, sc, rfl, ht, hb1⟩
  go_wp2_with fail
  refine (locks_any ra none sa rc 0 sc [1] [] [sNote] _ ht).mono ?_
  rintro e w2 ⟨la, lc, rfl, hla, hb2⟩
  rw [nL, nE]
  rw [nL] at hla
  have B2 : Hid (Below w.heap.size w w2) := grow_trans hb1 hb2
  clear ht hb1 hb2
  go_wp2_with fail
  refine (pay_any 3 _).mono ?_
  rintro e wp3 ⟨ra3, ga3, sa3, rc3, gc3, sc3, rfl, ht3, hbp3⟩
  go_wp2_with fail
  refine (txnRun_any ra3 ga3 sa3 rc3 gc3 sc3 [0, 1] [gPay 3] [s1Pay 3, s2Pay 3] _ 2 [5, 1] _ (ht3.below (grow_alloc (Below.refl _ _) _)) ?_ (fun h => by cases h)).mono ?_
  · exact isInts_two _ _ 5 1 (by simp)
  rintro e wr3 ⟨va3, vc3, ma3, mc3, rfl, hva3, hma3, hbr3⟩
  rw [aD, aV, aM, aE]
  rw [aM] at hma3
  have hm3 := hma3.ints (Nat.le_refl _)
  clear ht3 hva3 hma3
  have A3 : Hid (Below w2.heap.size w2 wr3) := grow_trans (grow_alloc hbp3 _) hbr3
  clear hbp3 hbr3
  go_wp2_with fail
  refine (pay_any 3 _).mono ?_
  rintro e wp4 ⟨ra4, ga4, sa4, rc4, gc4, sc4, rfl, ht4, hbp4⟩
  go_wp2_with fail
  refine (txnRun_any ra4 ga4 sa4 rc4 gc4 sc4 [0, 1] [gPay 3] [s1Pay 3, s2Pay 3] _ 2 [2, 1] _ (ht4.below (grow_alloc (Below.refl _ _) _)) ?_ (fun h => by cases h)).mono ?_
  · exact isInts_two _ _ 2 1 (by simp)
  rintro e wr4 ⟨va4, vc4, ma4, mc4, rfl, hva4, hma4, hbr4⟩
  rw [bD, bV, bM, bE]
  rw [bM] at hma4
  have hm4 := hma4.ints (Nat.le_refl _)
  clear ht4 hva4 hma4
  have A4 : Hid (Below (wr3.alloc (.cells #[.bool true, .slice va3 2 vc3] 50)).heap.size (wr3.alloc (.cells #[.bool true, .slice va3 2 vc3] 50)) wr4) := grow_trans (grow_alloc hbp4 _) hbr4
  clear hbp4 hbr4
  go_wp2_with fail
  refine (pay_any 3 _).mono ?_
  rintro e wp5 ⟨ra5, ga5, sa5, rc5, gc5, sc5, rfl, ht5, hbp5⟩
  go_wp2_with fail
  refine (txnRun_any ra5 ga5 sa5 rc5 gc5 sc5 [0, 1] [gPay 3] [s1Pay 3, s2Pay 3] _ 1 [2] _ (ht5.below (grow_alloc (Below.refl _ _) _)) ?_ (fun h => by cases h)).mono ?_
  · exact isInts_one _ _ 2 (by simp)
  rintro e wr5 ⟨va5, vc5, ma5, mc5, rfl, hva5, hma5, hbr5⟩
  rw [cD, cV, cM, cE]
  rw [cM] at hma5
  have hm5 := hma5.ints (Nat.le_refl _)
  clear ht5 hva5 hma5
  have A5 : Hid (Below (wr4.alloc (.cells #[.bool false, .slice va4 2 vc4] 50)).heap.size (wr4.alloc (.cells #[.bool false, .slice va4 2 vc4] 50)) wr5) := grow_trans (grow_alloc hbp5 _) hbr5
  clear hbp5 hbr5
  go_wp2_with fail
  refine (pay_any 3 _).mono ?_
  rintro e wp6 ⟨ra6, ga6, sa6, rc6, gc6, sc6, rfl, ht6, hbp6⟩
  go_wp2_with fail
  refine (pay_any 3 _).mono ?_
  rintro e wp7 ⟨ra7, ga7, sa7, rc7, gc7, sc7, rfl, ht7, hbp7⟩
  have U3 : Below wr3.heap.size wr3 (wr3.alloc (.cells #[.bool true, .slice va3 2 vc3] 50)) := grow_alloc (Below.refl _ _) _
  have U4 : Below wr4.heap.size wr4 (wr4.alloc (.cells #[.bool false, .slice va4 2 vc4] 50)) := grow_alloc (Below.refl _ _) _
  have U5 : Below wr5.heap.size wr5 (wr5.alloc (.cells #[.bool false, .slice va5 0 vc5] 50)) := grow_alloc (Below.refl _ _) _
  have U6 : Below wp6.heap.size wp6 ((wp6.alloc (.cells #[.slice (some ⟨wp6.heap.size + 1, 0, none⟩) 2 2, .slice ga6 1 gc6, .slice sa6 2 sc6] 40)).alloc (.cells #[.int .i64 1, .int .i64 0] 3)) := grow_alloc (grow_alloc (Below.refl _ _) _) _
  have V6 : Below wp6.heap.size wp6 wp7 := grow_trans U6 hbp7
  have V5 : Below (wr4.alloc (.cells #[.bool false, .slice va4 2 vc4] 50)).heap.size (wr4.alloc (.cells #[.bool false, .slice va4 2 vc4] 50)) wp7 := grow_trans (grow_trans (grow_trans A5.out U5) hbp6) V6
  have V4 : Below (wr3.alloc (.cells #[.bool true, .slice va3 2 vc3] 50)).heap.size (wr3.alloc (.cells #[.bool true, .slice va3 2 vc3] 50)) wp7 := grow_trans (grow_trans A4.out U4) V5
  have V3 : Below wr3.heap.size wr3 wp7 := grow_trans U3 V4
  have V2 : Below w2.heap.size w2 wp7 := grow_trans A3.out V3
  have rD : wp7.cell? ⟨wr3.heap.size, 0, none⟩ = some (.bool true) := ext_cell V4 (by simp)
  have qD : wp7.cell? ⟨wr4.heap.size, 0, none⟩ = some (.bool false) := ext_cell V5 (by simp)
  have xI : IsInts ((wp6.alloc (.cells #[.slice (some ⟨wp6.heap.size + 1, 0, none⟩) 2 2, .slice ga6 1 gc6, .slice sa6 2 sc6] 40)).alloc (.cells #[.int .i64 1, .int .i64 0] 3)) (some ⟨wp6.heap.size + 1, 0, none⟩) [1, 0] := isInts_two _ _ 1 0 (by simp)
  have x0 : wp7.cell? ⟨wp6.heap.size, 0, none⟩ = some (.slice (some ⟨wp6.heap.size + 1, 0, none⟩) 2 2) := ext_cell hbp7 ((World.cell?_alloc_lt _ _ _ (by simp)).trans (by simp))
  have x1 : wp7.cell? ⟨wp6.heap.size, 1, none⟩ = some (.slice ga6 1 gc6) := ext_cell hbp7 ((World.cell?_alloc_lt _ _ _ (by simp)).trans (by simp))
  have x2 : wp7.cell? ⟨wp6.heap.size, 2, none⟩ = some (.slice sa6 2 sc6) := ext_cell hbp7 ((World.cell?_alloc_lt _ _ _ (by simp)).trans (by simp))
  have htx : Hid (IsTx wp7 (some ⟨wp6.heap.size + 1, 0, none⟩) ga6 sa6 [1, 0] [gPay 3] [s1Pay 3, s2Pay 3]) := ⟨xI.below hbp7, (ht6.below V6).g, (ht6.below V6).s, by simp [maxLen], by simp [maxLen], by simp [maxLen]⟩
  have hL : IsLks wp7 la [(1, false), (5, true)] := hla.below V2
  have hM : Hid (IsInts wp7 ma3 [2, 4]) := hm3.below V3
  obtain ⟨lb, lo, hlae, hlb, l00, l01⟩ := hL 0 (by simp)
  obtain ⟨lb', lo', hlae', hlb', l10, l11⟩ := hL 1 (by simp)
  subst hlae
  simp only [Option.some.injEq, Addr.mk.injEq, and_true] at hlae'
  obtain ⟨rfl, rfl⟩ := hlae'
  simp only [Nat.zero_mul, Nat.add_zero, Nat.one_mul] at l00 l01 l10 l11
  have HT7 : Hid (IsTx wp7 ra7 ga7 sa7 [0, 1] [gPay 3] [s1Pay 3, s2Pay 3]) := ht7
  have HW : Hid (Below w.heap.size w wp7) := grow_trans B2.out V2
  clear U3 U4 U5 U6 V6 V5 V4 V3 V2 xI A3 A4 A5 hm3 hm4 hm5 hla ht6 ht7 hbp6 hbp7 hL B2 hlb hlb'
  generalize wr3.heap.size = R3 at *
  generalize wr4.heap.size = R4 at *
  generalize wp6.heap.size = R6 at *
  go_wp2_with fail
  refine (txnCheck_any ra7 ga7 sa7 rc7 gc7 sc7 [0, 1] [gPay 3] [s1Pay 3, s2Pay 3] _ HT7.out).mono ?_
  rintro e w8 ⟨rfl, hb8⟩
  rw [pE]
  have y0 := ext_cell hb8 x0
  have y1 := ext_cell hb8 x1
  have y2 := ext_cell hb8 x2
  go_wp2_with fail
  refine (txnCheck_any _ _ _ _ _ _ [1, 0] [gPay 3] [s1Pay 3, s2Pay 3] _ (htx.out.below hb8)).mono ?_
  rintro e w9 ⟨rfl, hb9⟩
  rw [xE]
  go_wp2_with fail
  refine (txnCheck_any none none none 0 0 0 [] [] [] _ ⟨fun i hi => absurd hi (by simp), fun i hi => absurd hi (by simp), fun i hi => absurd hi (by simp), by simp, by simp, by simp⟩).mono ?_
  rintro e wA ⟨rfl, hbA⟩
  rw [eE]
  have B9 := grow_trans hb8 (grow_trans hb9 hbA)
  have z00 := ext_cell B9 l00
  have z01 := ext_cell B9 l01
  have z10 := ext_cell B9 l10
  have z11 := ext_cell B9 l11
  have zr := ext_cell B9 rD
  have zq := ext_cell B9 qD
  have HB9 : Hid (Below wp7.heap.size wp7 wA) := B9
  clear y0 y1 y2 x0 x1 x2 rD qD l00 l01 l10 l11 hb8 hb9 hbA B9 htx HT7
  go_wp2_with fail
  refine (sameInts_any [2, 4] [2, 4] ma3 _ mc3 _ _ (by simp [maxLen]) ?_ ?_).mono ?_
  · exact (hM.out.below HB9.out).below (grow_alloc (Below.refl _ _) _)
  · exact isInts_two _ _ 2 4 rfl
  rintro e wB ⟨rfl, hbB⟩
  have RB := grow_trans (grow_trans HW.out HB9.out) (grow_trans (grow_alloc (Below.refl _ _) _) hbB)
  clear hbB HB9 HW z00 z01 z10 z11 zr zq hM
  go_wp2
  go_ret
  exact ⟨rfl, RB⟩
end Go.Proofs.Ytobhbllohafdhaa
