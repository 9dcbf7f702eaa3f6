/-
  
  Conditions: those that each theorem states.
-/
import Derived.Test.YtcgpkonfneofdaaGreatSSerV
set_option maxRecDepth 100000
namespace Go.Proofs.YtcgpkonfneofdaaGreat
open Go.RowKit
def sMark (n : Int) : St := ⟨7, 1, 1, n, 1, 0⟩
abbrev xMark (n : Int) (sa : Option Addr) (sc : Nat) : TxA := ⟨none, none, sa, 0, 0, sc, [], [], [sMark n]⟩
def XAt (C : Nat) (ra ga sa : Option Addr) : Prop := (∀ ad, ra = some ad → C ≤ ad.block) ∧ (∀ ad, ga = some ad → C ≤ ad.block) ∧ (∀ ad, sa = some ad → C ≤ ad.block)
set_option maxHeartbeats 1000000 in
theorem note_at (w : World) : Calls Tryz.prog 22 #[] w fun e w' => ∃ ra sa rc sc, e = .returned (.agg #[.slice ra ([1] : List Int).length rc, .slice none ([] : List Gd).length 0, .slice sa [sNote].length sc]) ∧ IsTx w' ra none sa [1] [] [sNote] ∧ XAt w.heap.size ra none sa ∧ Below w.heap.size w w' := by
 go_enter Tryz.func22, Tryz.ntmps22
 go_wp2_with fail
 refine (lawValue_any 0 _).mono ?_
 rintro e w' ⟨rfl, rfl⟩
 go_wp2_with fail
 refine (lawNumber_any 0 _).mono ?_
 rintro e w' ⟨rfl, rfl⟩
 go_wp2
 refine bodyPost_ret (v := .agg #[.slice (some ⟨w.heap.size + 1, 0, none⟩) 1 1, .slice none 0 0, .slice (some ⟨w.heap.size + 1 + 1 + 1 + 1, 0, none⟩) 1 1]) ?_ rfl ⟨_, _, _, _, rfl, ⟨?_, ?_, ?_, by decide, by decide, by decide⟩, ?_, ?_⟩
 ·simp [results, Tryz.results22, go_sem]
 ·generalize Obj.cells #[_, _, _] 61 = O0
  exact (isInts_one (w.alloc O0) (w.heap.size + 1) 1 (by simp)).below (by repeat (first | assumption | exact Below.refl _ _ | refine grow_drew ?_ | refine grow_alloc ?_ _ | refine grow_trans ?_ (by assumption)))
 ·exact fun i hi => absurd hi (by simp)
 ·exact isSs_one _ _ _ _ _ _ _ _ (by simp)
 ·exact ⟨fun ad h => by first | (cases h; done) | (injection h with h; subst h; first | (simp; done) | (simp; omega)), fun ad h => by first | (cases h; done) | (injection h with h; subst h; first | (simp; done) | (simp; omega)), fun ad h => by first | (cases h; done) | (injection h with h; subst h; first | (simp; done) | (simp; omega))⟩
 ·repeat (first | assumption | exact Below.refl _ _ | refine grow_drew ?_ | refine grow_alloc ?_ _ | refine grow_trans ?_ (by assumption))
set_option maxHeartbeats 1000000 in
theorem pay_at (n : Int) (w : World) : Calls Tryz.prog 21 #[.int .i64 n] w fun e w' => ∃ ra ga sa rc gc sc, e = .returned (.agg #[.slice ra ([0, 1] : List Int).length rc, .slice ga [gPay n].length gc, .slice sa [s1Pay n, s2Pay n].length sc]) ∧ IsTx w' ra ga sa [0, 1] [gPay n] [s1Pay n, s2Pay n] ∧ XAt w.heap.size ra ga sa ∧ Below w.heap.size w w' := by
 go_enter Tryz.func21, Tryz.ntmps21
 go_wp2_with fail
 refine (lawNumber_any n _).mono ?_
 rintro e w' ⟨rfl, rfl⟩
 go_wp2_with fail
 refine (lawValue_any 0 _).mono ?_
 rintro e w' ⟨rfl, rfl⟩
 go_wp2_with fail
 refine (lawValue_any 0 _).mono ?_
 rintro e w' ⟨rfl, rfl⟩
 go_wp2_with fail
 refine (lawNumber_any n _).mono ?_
 rintro e w' ⟨rfl, rfl⟩
 go_wp2_with fail
 refine (lawValue_any 1 _).mono ?_
 rintro e w' ⟨rfl, rfl⟩
 go_wp2_with fail
 refine (lawNumber_any n _).mono ?_
 rintro e w' ⟨rfl, rfl⟩
 go_wp2
 refine bodyPost_ret (v := .agg #[.slice (some ⟨w.heap.size + 1, 0, none⟩) 2 2, .slice (some ⟨w.heap.size + 1 + 1 + 1 + 1, 0, none⟩) 1 1, .slice (some ⟨w.heap.size + 1 + 1 + 1 + 1 + 1 + 1 + 1 + 1 + 1, 0, none⟩) 2 2]) ?_ rfl ⟨_, _, _, _, _, _, rfl, ⟨?_, ?_, ?_, by simp [maxLen], by simp [maxLen], by simp [maxLen]⟩, ?_, ?_⟩
 ·simp [results, Tryz.results21, go_sem]
 ·generalize Obj.cells #[_, _, _] 61 = O0
  exact (isInts_two (w.alloc O0) (w.heap.size + 1) 0 1 (by simp)).below (by repeat (first | assumption | exact Below.refl _ _ | refine grow_drew ?_ | refine grow_alloc ?_ _ | refine grow_trans ?_ (by assumption)))
 ·generalize Obj.cells #[_, _, _] 61 = O0
  exact (isGs_one ((((w.alloc O0).alloc (.cells #[.int .i64 0, .int .i64 1] 3)).alloc (.cells #[.int .i64 1, .int .i64 n] 101)).alloc (.cells #[.int .i64 2, .int .i64 0] 101)) (w.heap.size + 1 + 1 + 1 + 1) 4 1 n 2 0 (by simp)).below (by repeat (first | assumption | exact Below.refl _ _ | refine grow_drew ?_ | refine grow_alloc ?_ _ | refine grow_trans ?_ (by assumption)))
 ·exact isSs_two _ _ _ _ _ _ _ _ _ _ _ _ _ _ (by simp)
 ·exact ⟨fun ad h => by first | (cases h; done) | (injection h with h; subst h; first | (simp; done) | (simp; omega)), fun ad h => by first | (cases h; done) | (injection h with h; subst h; first | (simp; done) | (simp; omega)), fun ad h => by first | (cases h; done) | (injection h with h; subst h; first | (simp; done) | (simp; omega))⟩
 ·repeat (first | assumption | exact Below.refl _ _ | refine grow_drew ?_ | refine grow_alloc ?_ _ | refine grow_trans ?_ (by assumption))
set_option maxHeartbeats 1000000 in
theorem mark_at (n : Int) (w : World) : Calls Tryz.prog 23 #[.int .i64 n] w fun e w' => ∃ sa sc, e = .returned (.agg #[.slice none ([] : List Int).length 0, .slice none ([] : List Gd).length 0, .slice sa [sMark n].length sc]) ∧ IsTx w' none none sa [] [] [sMark n] ∧ XAt w.heap.size none none sa ∧ Below w.heap.size w w' := by
 go_enter Tryz.func23, Tryz.ntmps23
 go_wp2_with fail
 refine (lawNumber_any n _).mono ?_
 rintro e w' ⟨rfl, rfl⟩
 go_wp2_with fail
 refine (lawNumber_any 0 _).mono ?_
 rintro e w' ⟨rfl, rfl⟩
 go_wp2
 refine bodyPost_ret (v := .agg #[.slice none 0 0, .slice none 0 0, .slice (some ⟨w.heap.size + 1 + 1 + 1, 0, none⟩) 1 1]) ?_ rfl ⟨_, _, rfl, ⟨?_, ?_, ?_, by simp [maxLen], by simp [maxLen], by simp [maxLen]⟩, ?_, ?_⟩
 ·simp [results, Tryz.results23, go_sem]
 ·exact fun i hi => absurd hi (by simp)
 ·exact fun i hi => absurd hi (by simp)
 ·exact isSs_one _ _ _ _ _ _ _ _ (by simp)
 ·exact ⟨fun ad h => by first | (cases h; done) | (injection h with h; subst h; first | (simp; done) | (simp; omega)), fun ad h => by first | (cases h; done) | (injection h with h; subst h; first | (simp; done) | (simp; omega)), fun ad h => by first | (cases h; done) | (injection h with h; subst h; first | (simp; done) | (simp; omega))⟩
 ·repeat (first | assumption | exact Below.refl _ _ | refine grow_drew ?_ | refine grow_alloc ?_ _ | refine grow_trans ?_ (by assumption))
end Go.Proofs.YtcgpkonfneofdaaGreat
