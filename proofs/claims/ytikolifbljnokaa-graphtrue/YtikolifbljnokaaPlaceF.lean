/-
  The transactions of the statements' own plan (mark, three).
  Conditions: none.
-/
import Derived.Test.YtikolifbljnokaaPlaceC
import Derived.Test.YtikolifbljnokaaStoreL
import Derived.WalkKit
import Derived.WalkSpells
import Derived.WalkLawsBesides
import Derived.ProofKit
import Derived.Deep.RegionHeld3
import Derived.BigQuiet
namespace Go.Proofs.Ytikolifbljnokaa
open Go.RowKit

def sMark (n : Int) : St := ⟨7, 1, 1, n, 1, 0⟩
abbrev xMark (n : Int) (sa : Option Addr) (sc : Nat) : TxA := ⟨none, none, sa, 0, 0, sc, [], [], [sMark n]⟩

/-- No list of a transaction lies below C. -/
def XAt (C : Nat) (ra ga sa : Option Addr) : Prop := (∀ ad, ra = some ad → C ≤ ad.block) ∧ (∀ ad, ga = some ad → C ≤ ad.block) ∧ (∀ ad, sa = some ad → C ≤ ad.block)
theorem XAt.low {C C' : Nat} {ra ga sa : Option Addr} (h : XAt C ra ga sa) (hc : C' ≤ C) : XAt C' ra ga sa :=
  ⟨fun ad e => Nat.le_trans hc (h.1 ad e), fun ad e => Nat.le_trans hc (h.2.1 ad e), fun ad e => Nat.le_trans hc (h.2.2 ad e)⟩
theorem far_ints {w : World} {a : Option Addr} {zs : List Int} (h : IsInts w a zs) (b j : Nat) (v : Value) (hne : ∀ ad, a = some ad → b < ad.block) : IsInts (w.setCell ⟨b, j, none⟩ v) a zs := fun i hi => by
  obtain ⟨b', off, ha, hlt, hc⟩ := h i hi
  have hn : b < b' := hne _ ha
  exact ⟨b', off, ha, by simpa using hlt, by rw [World.cell?_setCell_far _ _ _ _ (by simp; omega)]; exact hc⟩
theorem far_gs {w : World} {a : Option Addr} {zs : List Gd} (h : IsGs w a zs) (b j : Nat) (v : Value) (hne : ∀ ad, a = some ad → b < ad.block) : IsGs (w.setCell ⟨b, j, none⟩ v) a zs := fun i hi => by
  obtain ⟨b', off, ha, hlt, c0, c1, c2, c3, c4⟩ := h i hi
  have hn : b < b' := hne _ ha
  have far : ∀ k u, w.cell? ⟨b', k, none⟩ = some u → (w.setCell ⟨b, j, none⟩ v).cell? ⟨b', k, none⟩ = some u := fun k u hc => by rw [World.cell?_setCell_far _ _ _ _ (by simp; omega)]; exact hc
  exact ⟨b', off, ha, by simpa using hlt, far _ _ c0, far _ _ c1, far _ _ c2, far _ _ c3, far _ _ c4⟩
theorem far_ss {w : World} {a : Option Addr} {zs : List St} (h : IsSs w a zs) (b j : Nat) (v : Value) (hne : ∀ ad, a = some ad → b < ad.block) : IsSs (w.setCell ⟨b, j, none⟩ v) a zs := fun i hi => by
  obtain ⟨b', off, ha, hlt, c0, c1, c2, c3, c4, c5⟩ := h i hi
  have hn : b < b' := hne _ ha
  have far : ∀ k u, w.cell? ⟨b', k, none⟩ = some u → (w.setCell ⟨b, j, none⟩ v).cell? ⟨b', k, none⟩ = some u := fun k u hc => by rw [World.cell?_setCell_far _ _ _ _ (by simp; omega)]; exact hc
  exact ⟨b', off, ha, by simpa using hlt, far _ _ c0, far _ _ c1, far _ _ c2, far _ _ c3, far _ _ c4, far _ _ c5⟩
theorem far_x {w : World} {x : TxA} (h : IsX w x) (b j : Nat) (v : Value) (hx : XAt (b + 1) x.ra x.ga x.sa) : IsX (w.setCell ⟨b, j, none⟩ v) x :=
  ⟨⟨far_ints h.t.r b j v (fun ad e => hx.1 ad e), far_gs h.t.g b j v (fun ad e => hx.2.1 ad e), far_ss h.t.s b j v (fun ad e => hx.2.2 ad e), h.t.lr, h.t.lg, h.t.ls⟩, h.rn, h.gn, h.sn⟩
theorem far_txs {w : World} {a : Option Addr} {l : List TxA} (h : IsTxs w a l) (b j : Nat) (v : Value) (hne : ∀ ad, a = some ad → b < ad.block) (hx : ∀ x ∈ l, XAt (b + 1) x.ra x.ga x.sa) : IsTxs (w.setCell ⟨b, j, none⟩ v) a l := fun i hi => by
  obtain ⟨b', off, ha, hlt, c0, c1, c2, hX⟩ := h i hi
  have hn : b < b' := hne _ ha
  have far : ∀ k u, w.cell? ⟨b', k, none⟩ = some u → (w.setCell ⟨b, j, none⟩ v).cell? ⟨b', k, none⟩ = some u := fun k u hc => by rw [World.cell?_setCell_far _ _ _ _ (by simp; omega)]; exact hc
  exact ⟨b', off, ha, by simpa using hlt, far _ _ c0, far _ _ c1, far _ _ c2, far_x hX b j v (hx _ (by simp [List.getD, hi]))⟩

set_option maxRecDepth 100000 in
set_option maxHeartbeats 1000000 in
theorem note_at (w : World) : Calls Try.prog 54 #[] w fun e w' => ∃ ra sa rc sc, e = .returned (.agg #[.slice ra ([1] : List Int).length rc, .slice none ([] : List Gd).length 0, .slice sa [sNote].length sc]) ∧ IsTx w' ra none sa [1] [] [sNote] ∧ XAt w.heap.size ra none sa ∧ Below w.heap.size w w' := by
  go_enter Try.func54, Try.ntmps54
  go_wp2_with fail
  refine (lawValue_any 0 _).mono ?_
  rintro e w' ⟨rfl, rfl⟩
  go_wp2_with fail
  refine (lawNumber_any 0 _).mono ?_
  rintro e w' ⟨rfl, rfl⟩
  go_wp2
  refine bodyPost_ret (v := .agg #[.slice (some ⟨w.heap.size + 1, 0, none⟩) 1 1, .slice none 0 0, .slice (some ⟨w.heap.size + 1 + 1 + 1 + 1, 0, none⟩) 1 1]) ?_ rfl ⟨_, _, _, _, rfl, ⟨?_, ?_, ?_, by decide, by decide, by decide⟩, ?_, ?_⟩
  · simp [results, Try.results54, go_sem]
  · generalize Obj.cells #[_, _, _] 26 = O0
    exact (isInts_one (w.alloc O0) (w.heap.size + 1) 1 (by simp)).below (by repeat (first | assumption | exact Below.refl _ _ | refine grow_drew ?_ | refine grow_alloc ?_ _ | refine grow_trans ?_ (by assumption)))
  · exact fun i hi => absurd hi (by simp)
  · exact isSs_one _ _ _ _ _ _ _ _ (by simp)
  · exact ⟨fun ad h => by first | (cases h; done) | (injection h with h; subst h; first | (simp; done) | (simp; omega)), fun ad h => by first | (cases h; done) | (injection h with h; subst h; first | (simp; done) | (simp; omega)), fun ad h => by first | (cases h; done) | (injection h with h; subst h; first | (simp; done) | (simp; omega))⟩
  · repeat (first | assumption | exact Below.refl _ _ | refine grow_drew ?_ | refine grow_alloc ?_ _ | refine grow_trans ?_ (by assumption))

set_option maxRecDepth 100000 in
set_option maxHeartbeats 1000000 in
theorem pay_at (n : Int) (w : World) : Calls Try.prog 53 #[.int .i64 n] w fun e w' => ∃ ra ga sa rc gc sc, e = .returned (.agg #[.slice ra ([0, 1] : List Int).length rc, .slice ga [gPay n].length gc, .slice sa [s1Pay n, s2Pay n].length sc]) ∧ IsTx w' ra ga sa [0, 1] [gPay n] [s1Pay n, s2Pay n] ∧ XAt w.heap.size ra ga sa ∧ Below w.heap.size w w' := by
  go_enter Try.func53, Try.ntmps53
  go_wp2_with fail
  refine (lawNumber_any n _).mono ?_
  rintro e w' ⟨rfl, rfl⟩
  go_wp2_with fail
  refine (lawValue_any 0 _).mono ?_
  rintro e w' ⟨rfl, rfl⟩
  go_wp2_with fail
  refine (lawValue_any 0 _).mono ?_
  rintro e w' ⟨rfl, rfl⟩
  go_wp2_with fail
  refine (lawNumber_any n _).mono ?_
  rintro e w' ⟨rfl, rfl⟩
  go_wp2_with fail
  refine (lawValue_any 1 _).mono ?_
  rintro e w' ⟨rfl, rfl⟩
  go_wp2_with fail
  refine (lawNumber_any n _).mono ?_
  rintro e w' ⟨rfl, rfl⟩
  go_wp2
  refine bodyPost_ret (v := .agg #[.slice (some ⟨w.heap.size + 1, 0, none⟩) 2 2, .slice (some ⟨w.heap.size + 1 + 1 + 1 + 1, 0, none⟩) 1 1, .slice (some ⟨w.heap.size + 1 + 1 + 1 + 1 + 1 + 1 + 1 + 1 + 1, 0, none⟩) 2 2]) ?_ rfl ⟨_, _, _, _, _, _, rfl, ⟨?_, ?_, ?_, by simp [maxLen], by simp [maxLen], by simp [maxLen]⟩, ?_, ?_⟩
  · simp [results, Try.results53, go_sem]
  · generalize Obj.cells #[_, _, _] 26 = O0
    exact (isInts_two (w.alloc O0) (w.heap.size + 1) 0 1 (by simp)).below (by repeat (first | assumption | exact Below.refl _ _ | refine grow_drew ?_ | refine grow_alloc ?_ _ | refine grow_trans ?_ (by assumption)))
  · generalize Obj.cells #[_, _, _] 26 = O0
    exact (isGs_one ((((w.alloc O0).alloc (.cells #[.int .i64 0, .int .i64 1] 3)).alloc (.cells #[.int .i64 1, .int .i64 n] 86)).alloc (.cells #[.int .i64 2, .int .i64 0] 86)) (w.heap.size + 1 + 1 + 1 + 1) 4 1 n 2 0 (by simp)).below (by repeat (first | assumption | exact Below.refl _ _ | refine grow_drew ?_ | refine grow_alloc ?_ _ | refine grow_trans ?_ (by assumption)))
  · exact isSs_two _ _ _ _ _ _ _ _ _ _ _ _ _ _ (by simp)
  · exact ⟨fun ad h => by first | (cases h; done) | (injection h with h; subst h; first | (simp; done) | (simp; omega)), fun ad h => by first | (cases h; done) | (injection h with h; subst h; first | (simp; done) | (simp; omega)), fun ad h => by first | (cases h; done) | (injection h with h; subst h; first | (simp; done) | (simp; omega))⟩
  · repeat (first | assumption | exact Below.refl _ _ | refine grow_drew ?_ | refine grow_alloc ?_ _ | refine grow_trans ?_ (by assumption))

set_option maxRecDepth 100000 in
set_option maxHeartbeats 1000000 in
theorem mark_at (n : Int) (w : World) : Calls Try.prog 55 #[.int .i64 n] w fun e w' => ∃ sa sc, e = .returned (.agg #[.slice none ([] : List Int).length 0, .slice none ([] : List Gd).length 0, .slice sa [sMark n].length sc]) ∧ IsTx w' none none sa [] [] [sMark n] ∧ XAt w.heap.size none none sa ∧ Below w.heap.size w w' := by
  go_enter Try.func55, Try.ntmps55
  go_wp2_with fail
  refine (lawNumber_any n _).mono ?_
  rintro e w' ⟨rfl, rfl⟩
  go_wp2_with fail
  refine (lawNumber_any 0 _).mono ?_
  rintro e w' ⟨rfl, rfl⟩
  go_wp2
  refine bodyPost_ret (v := .agg #[.slice none 0 0, .slice none 0 0, .slice (some ⟨w.heap.size + 1 + 1 + 1, 0, none⟩) 1 1]) ?_ rfl ⟨_, _, rfl, ⟨?_, ?_, ?_, by simp [maxLen], by simp [maxLen], by simp [maxLen]⟩, ?_, ?_⟩
  · simp [results, Try.results55, go_sem]
  · exact fun i hi => absurd hi (by simp)
  · exact fun i hi => absurd hi (by simp)
  · exact isSs_one _ _ _ _ _ _ _ _ (by simp)
  · exact ⟨fun ad h => by first | (cases h; done) | (injection h with h; subst h; first | (simp; done) | (simp; omega)), fun ad h => by first | (cases h; done) | (injection h with h; subst h; first | (simp; done) | (simp; omega)), fun ad h => by first | (cases h; done) | (injection h with h; subst h; first | (simp; done) | (simp; omega))⟩
  · repeat (first | assumption | exact Below.refl _ _ | refine grow_drew ?_ | refine grow_alloc ?_ _ | refine grow_trans ?_ (by assumption))

end Go.Proofs.Ytikolifbljnokaa
