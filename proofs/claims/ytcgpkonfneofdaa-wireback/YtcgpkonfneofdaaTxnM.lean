/-
  The first look of the statements on transactions (txnBegun) finds what it must.
  Conditions: none.
-/
import Derived.Test.YtcgpkonfneofdaaTxnK
import Derived.Test.YtcgpkonfneofdaaTxnG
import Derived.WalkKit
import Derived.WalkSpells
import Derived.WalkLawsBesides
import Derived.Defers
import Derived.Recover
import Derived.ProofKit
import Derived.Deep.RegionHeld
import Derived.Deep.RegionHeld3
import Derived.BigQuiet
namespace Go.Proofs.Ytcgpkonfneofdaa
open Go.RowKit

def sNote : St := ⟨5, 1, 2, 0, 1, 0⟩
def gPay (n : Int) : Gd := ⟨4, 1, n, 2, 0⟩
def s1Pay (n : Int) : St := ⟨0, 3, 2, 0, 1, n⟩
def s2Pay (n : Int) : St := ⟨1, 2, 2, 1, 1, n⟩

set_option maxRecDepth 100000 in
theorem isInts_one (w : World) (s : Nat) (x : Int) (hs : s = w.heap.size) : IsInts (w.alloc (.cells #[.int .i64 x] 3)) (some ⟨s, 0, none⟩) [x] := by
  subst hs
  intro i hi
  refine ⟨w.heap.size, 0, rfl, by simp, ?_⟩
  match i, hi with
  | 0, _ => simp

set_option maxRecDepth 100000 in
theorem isSs_one (w : World) (s : Nat) (a b c d e f : Int) (hs : s = w.heap.size) : IsSs (w.alloc (.cells #[.int .i64 a, .int .i64 b, .int .i64 c, .int .i64 d, .int .i64 e, .int .i64 f] 47)) (some ⟨s, 0, none⟩) [⟨a, b, c, d, e, f⟩] := by
  subst hs
  intro i hi
  refine ⟨w.heap.size, 0, rfl, by simp, ?_⟩
  match i, hi with
  | 0, _ => simp

set_option maxRecDepth 100000 in
theorem isSs_two (w : World) (s : Nat) (a b c d e f a' b' c' d' e' f' : Int) (hs : s = w.heap.size) : IsSs (w.alloc (.cells #[.int .i64 a, .int .i64 b, .int .i64 c, .int .i64 d, .int .i64 e, .int .i64 f, .int .i64 a', .int .i64 b', .int .i64 c', .int .i64 d', .int .i64 e', .int .i64 f'] 47)) (some ⟨s, 0, none⟩) [⟨a, b, c, d, e, f⟩, ⟨a', b', c', d', e', f'⟩] := by
  subst hs
  intro i hi
  refine ⟨w.heap.size, 0, rfl, by simp, ?_⟩
  match i, hi with
  | 0, _ => simp
  | 1, _ => simp

set_option maxRecDepth 100000 in
theorem isGs_one (w : World) (s : Nat) (a b c d e : Int) (hs : s = w.heap.size) : IsGs (w.alloc (.cells #[.int .i64 a, .int .i64 b, .int .i64 c, .int .i64 d, .int .i64 e] 101)) (some ⟨s, 0, none⟩) [⟨a, b, c, d, e⟩] := by
  subst hs
  intro i hi
  refine ⟨w.heap.size, 0, rfl, by simp, ?_⟩
  match i, hi with
  | 0, _ => simp

set_option maxRecDepth 100000 in
set_option maxHeartbeats 1000000 in
theorem note_any (w : World) : Calls Try.prog 41 #[] w fun e w' => ∃ ra sa rc sc, e = .returned (.agg #[.slice ra ([1] : List Int).length rc, .slice none ([] : List Gd).length 0, .slice sa [sNote].length sc]) ∧ IsTx w' ra none sa [1] [] [sNote] ∧ Below w.heap.size w w' := by
  go_enter Try.func41, Try.ntmps41
  go_wp2_with fail
  refine (lawValue_any 0 _).mono ?_
  rintro e w' ⟨rfl, rfl⟩
  go_wp2_with fail
  refine (lawNumber_any 0 _).mono ?_
  rintro e w' ⟨rfl, rfl⟩
  go_wp2
  refine bodyPost_ret (v := .agg #[.slice (some ⟨w.heap.size + 1, 0, none⟩) 1 1, .slice none 0 0, .slice (some ⟨w.heap.size + 1 + 1 + 1 + 1, 0, none⟩) 1 1]) ?_ rfl ⟨_, _, _, _, rfl, ⟨?_, ?_, ?_, by decide, by decide, by decide⟩, ?_⟩
  · simp [results, Try.results41, go_sem]
  · generalize Obj.cells #[_, _, _] 38 = O0
    exact (isInts_one (w.alloc O0) (w.heap.size + 1) 1 (by simp)).below (by repeat (first | assumption | exact Below.refl _ _ | refine grow_drew ?_ | refine grow_alloc ?_ _ | refine grow_trans ?_ (by assumption)))
  · exact fun i hi => absurd hi (by simp)
  · exact isSs_one _ _ _ _ _ _ _ _ (by simp)
  · repeat (first | assumption | exact Below.refl _ _ | refine grow_drew ?_ | refine grow_alloc ?_ _ | refine grow_trans ?_ (by assumption))

set_option maxRecDepth 100000 in
set_option maxHeartbeats 1000000 in
theorem pay_any (n : Int) (w : World) : Calls Try.prog 40 #[.int .i64 n] w fun e w' => ∃ ra ga sa rc gc sc, e = .returned (.agg #[.slice ra ([0, 1] : List Int).length rc, .slice ga [gPay n].length gc, .slice sa [s1Pay n, s2Pay n].length sc]) ∧ IsTx w' ra ga sa [0, 1] [gPay n] [s1Pay n, s2Pay n] ∧ Below w.heap.size w w' := by
  go_enter Try.func40, Try.ntmps40
  go_wp2_with fail
  refine (lawNumber_any n _).mono ?_
  rintro e w' ⟨rfl, rfl⟩
  go_wp2_with fail
  refine (lawValue_any 0 _).mono ?_
  rintro e w' ⟨rfl, rfl⟩
  go_wp2_with fail
  refine (lawValue_any 0 _).mono ?_
  rintro e w' ⟨rfl, rfl⟩
  go_wp2_with fail
  refine (lawNumber_any n _).mono ?_
  rintro e w' ⟨rfl, rfl⟩
  go_wp2_with fail
  refine (lawValue_any 1 _).mono ?_
  rintro e w' ⟨rfl, rfl⟩
  go_wp2_with fail
  refine (lawNumber_any n _).mono ?_
  rintro e w' ⟨rfl, rfl⟩
  go_wp2
  refine bodyPost_ret (v := .agg #[.slice (some ⟨w.heap.size + 1, 0, none⟩) 2 2, .slice (some ⟨w.heap.size + 1 + 1 + 1 + 1, 0, none⟩) 1 1, .slice (some ⟨w.heap.size + 1 + 1 + 1 + 1 + 1 + 1 + 1 + 1 + 1, 0, none⟩) 2 2]) ?_ rfl ⟨_, _, _, _, _, _, rfl, ⟨?_, ?_, ?_, by simp [maxLen], by simp [maxLen], by simp [maxLen]⟩, ?_⟩
  · simp [results, Try.results40, go_sem]
  · generalize Obj.cells #[_, _, _] 38 = O0
    exact (isInts_two (w.alloc O0) (w.heap.size + 1) 0 1 (by simp)).below (by repeat (first | assumption | exact Below.refl _ _ | refine grow_drew ?_ | refine grow_alloc ?_ _ | refine grow_trans ?_ (by assumption)))
  · generalize Obj.cells #[_, _, _] 38 = O0
    exact (isGs_one ((((w.alloc O0).alloc (.cells #[.int .i64 0, .int .i64 1] 3)).alloc (.cells #[.int .i64 1, .int .i64 n] 45)).alloc (.cells #[.int .i64 2, .int .i64 0] 45)) (w.heap.size + 1 + 1 + 1 + 1) 4 1 n 2 0 (by simp)).below (by repeat (first | assumption | exact Below.refl _ _ | refine grow_drew ?_ | refine grow_alloc ?_ _ | refine grow_trans ?_ (by assumption)))
  · exact isSs_two _ _ _ _ _ _ _ _ _ _ _ _ _ _ (by simp)
  · repeat (first | assumption | exact Below.refl _ _ | refine grow_drew ?_ | refine grow_alloc ?_ _ | refine grow_trans ?_ (by assumption))

set_option maxRecDepth 100000 in
theorem nE : chkTx [1] [] [sNote] = 0 := by decide
set_option maxRecDepth 100000 in
theorem nL : lksOf [1] [] [sNote] = [(1, false), (5, true)] := by decide
set_option maxRecDepth 100000 in
theorem pE : chkTx [0, 1] [gPay 3] [s1Pay 3, s2Pay 3] = 0 := by decide
set_option maxRecDepth 100000 in
theorem xE : chkTx [1, 0] [gPay 3] [s1Pay 3, s2Pay 3] = 1 := by decide
set_option maxRecDepth 100000 in
theorem eE : chkTx [] [] [] = 2 := by decide
set_option maxRecDepth 100000 in
theorem aE : runE [0, 1] [gPay 3] [s1Pay 3, s2Pay 3] [5, 1] = 0 := by decide
set_option maxRecDepth 100000 in
theorem aD : runD [0, 1] [gPay 3] [s1Pay 3, s2Pay 3] [5, 1] = true := by decide
set_option maxRecDepth 100000 in
theorem aV : runV [0, 1] [gPay 3] [s1Pay 3, s2Pay 3] [5, 1] = [5, 1] := by decide
set_option maxRecDepth 100000 in
theorem aM : runM [0, 1] [gPay 3] [s1Pay 3, s2Pay 3] [5, 1] = [2, 4] := by decide +kernel
set_option maxRecDepth 100000 in
theorem bE : runE [0, 1] [gPay 3] [s1Pay 3, s2Pay 3] [2, 1] = 0 := by decide
set_option maxRecDepth 100000 in
theorem bD : runD [0, 1] [gPay 3] [s1Pay 3, s2Pay 3] [2, 1] = false := by decide
set_option maxRecDepth 100000 in
theorem bV : runV [0, 1] [gPay 3] [s1Pay 3, s2Pay 3] [2, 1] = [2, 1] := by decide
set_option maxRecDepth 100000 in
theorem bM : runM [0, 1] [gPay 3] [s1Pay 3, s2Pay 3] [2, 1] = [] := by decide
set_option maxRecDepth 100000 in
theorem cE : runE [0, 1] [gPay 3] [s1Pay 3, s2Pay 3] [2] = 3 := by decide
set_option maxRecDepth 100000 in
theorem cD : runD [0, 1] [gPay 3] [s1Pay 3, s2Pay 3] [2] = false := by decide
set_option maxRecDepth 100000 in
theorem cV : runV [0, 1] [gPay 3] [s1Pay 3, s2Pay 3] [2] = [] := by decide
set_option maxRecDepth 100000 in
theorem cM : runM [0, 1] [gPay 3] [s1Pay 3, s2Pay 3] [2] = [] := by decide

end Go.Proofs.Ytcgpkonfneofdaa
