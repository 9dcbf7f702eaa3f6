/-
  The transactions of the statements' own plan (mark, three).
  Conditions: none.
-/
import Derived.Test.YtfogphljilgogaaPlaceE
import Derived.Test.YtfogphljilgogaaStoreZ
import Derived.WalkKit
import Derived.WalkSpells
import Derived.WalkLawsBesides
import Derived.ProofKit
import Derived.Deep.RegionHeld3
import Derived.BigQuiet
namespace Go.Proofs.Ytfogphljilgogaa
open Go.RowKit

def sMark (n : Int) : St := ⟨7, 1, 1, n, 1, 0⟩
abbrev xMark (n : Int) (sa : Option Addr) (sc : Nat) : TxA := ⟨none, none, sa, 0, 0, sc, [], [], [sMark n]⟩

/-- No list of a transaction lies below C. -/
def XAt (C : Nat) (ra ga sa : Option Addr) : Prop := (∀ ad, ra = some ad → C ≤ ad.block) ∧ (∀ ad, ga = some ad → C ≤ ad.block) ∧ (∀ ad, sa = some ad → C ≤ ad.block)
theorem XAt.low {C C' : Nat} {ra ga sa : Option Addr} (h : XAt C ra ga sa) (hc : C' ≤ C) : XAt C' ra ga sa :=
  ⟨fun ad e => Nat.le_trans hc (h.1 ad e), fun ad e => Nat.le_trans hc (h.2.1 ad e), fun ad e => Nat.le_trans hc (h.2.2 ad e)⟩
theorem far_ints {w : World} {a : Option Addr} {zs : List Int} (h : IsInts w a zs) (b j : Nat) (v : Value) (hne : ∀ ad, a = some ad → b < ad.block) : IsInts (w.setCell ⟨b, j, none⟩ v) a zs := fun i hi => by
  obtain ⟨b', off, ha, hlt, hc⟩ := h i hi
  have hn : b < b' := hne _ ha
  exact ⟨b', off, ha, by simpa using hlt, by rw [World.cell?_setCell_far _ _ _ _ (by simp; omega)]; exact hc⟩
theorem far_gs {w : World} {a : Option Addr} {zs : List Gd} (h : IsGs w a zs) (b j : Nat) (v : Value) (hne : ∀ ad, a = some ad → b < ad.block) : IsGs (w.setCell ⟨b, j, none⟩ v) a zs := fun i hi => by
  obtain ⟨b', off, ha, hlt, c0, c1, c2, c3, c4⟩ := h i hi
  have hn : b < b' := hne _ ha
  have far : ∀ k u, w.cell? ⟨b', k, none⟩ = some u → (w.setCell ⟨b, j, none⟩ v).cell? ⟨b', k, none⟩ = some u := fun k u hc => by rw [World.cell?_setCell_far _ _ _ _ (by simp; omega)]; exact hc
  exact ⟨b', off, ha, by simpa using hlt, far _ _ c0, far _ _ c1, far _ _ c2, far _ _ c3, far _ _ c4⟩
theorem far_ss {w : World} {a : Option Addr} {zs : List St} (h : IsSs w a zs) (b j : Nat) (v : Value) (hne : ∀ ad, a = some ad → b < ad.block) : IsSs (w.setCell ⟨b, j, none⟩ v) a zs := fun i hi => by
  obtain ⟨b', off, ha, hlt, c0, c1, c2, c3, c4, c5⟩ := h i hi
  have hn : b < b' := hne _ ha
  have far : ∀ k u, w.cell? ⟨b', k, none⟩ = some u → (w.setCell ⟨b, j, none⟩ v).cell? ⟨b', k, none⟩ = some u := fun k u hc => by rw [World.cell?_setCell_far _ _ _ _ (by simp; omega)]; exact hc
  exact ⟨b', off, ha, by simpa using hlt, far _ _ c0, far _ _ c1, far _ _ c2, far _ _ c3, far _ _ c4, far _ _ c5⟩
theorem far_x {w : World} {x : TxA} (h : IsX w x) (b j : Nat) (v : Value) (hx : XAt (b + 1) x.ra x.ga x.sa) : IsX (w.setCell ⟨b, j, none⟩ v) x :=
  ⟨⟨far_ints h.t.r b j v (fun ad e => hx.1 ad e), far_gs h.t.g b j v (fun ad e => hx.2.1 ad e), far_ss h.t.s b j v (fun ad e => hx.2.2 ad e), h.t.lr, h.t.lg, h.t.ls⟩, h.rn, h.gn, h.sn⟩
theorem far_txs {w : World} {a : Option Addr} {l : List TxA} (h : IsTxs w a l) (b j : Nat) (v : Value) (hne : ∀ ad, a = some ad → b < ad.block) (hx : ∀ x ∈ l, XAt (b + 1) x.ra x.ga x.sa) : IsTxs (w.setCell ⟨b, j, none⟩ v) a l := fun i hi => by
  obtain ⟨b', off, ha, hlt, c0, c1, c2, hX⟩ := h i hi
  have hn : b < b' := hne _ ha
  have far : ∀ k u, w.cell? ⟨b', k, none⟩ = some u → (w.setCell ⟨b, j, none⟩ v).cell? ⟨b', k, none⟩ = some u := fun k u hc => by rw [World.cell?_setCell_far _ _ _ _ (by simp; omega)]; exact hc
  exact ⟨b', off, ha, by simpa using hlt, far _ _ c0, far _ _ c1, far _ _ c2, far_x hX b j v (hx _ (by simp [List.getD, hi]))⟩

set_option maxRecDepth 100000 in
set_option maxHeartbeats 1000000 in
theorem note_at (w : World) : Calls Try.prog 41 #[] w fun e w' => ∃ ra sa rc sc, e = .returned (.agg #[.slice ra ([1] : List Int).length rc, .slice none ([] : List Gd).length 0, .slice sa [sNote].length sc]) ∧ IsTx w' ra none sa [1] [] [sNote] ∧ XAt w.heap.size ra none sa ∧ Below w.heap.size w w' := by
  go_enter Try.func41, Try.ntmps41
  go_wp2_with fail
  refine (lawValue_any 0 _).mono ?_
  rintro e w' ⟨rfl, rfl⟩
  go_wp2_with fail
  refine (lawNumber_any 0 _).mono ?_
  rintro e w' ⟨rfl, rfl⟩
  go_wp2
  refine bodyPost_ret (v := .agg #[.slice (some ⟨w.heap.size + 1, 0, none⟩) 1 1, .slice none 0 0, .slice (some ⟨w.heap.size + 1 + 1 + 1 + 1, 0, none⟩) 1 1]) ?_ rfl ⟨_, _, _, _, rfl, ⟨?_, ?_, ?_, by decide, by decide, by decide⟩, ?_, ?_⟩
  · simp [results, Try.results41, go_sem]
  · generalize Obj.cells #[_, _, _] 26 = O0
    exact (isInts_one (w.alloc O0) (w.heap.size + 1) 1 (by simp)).below (by repeat (first | assumption | exact Below.refl _ _ | refine grow_drew ?_ | refine grow_alloc ?_ _ | refine grow_trans ?_ (by assumption)))
  · exact fun i hi => absurd hi (by simp)
  · exact isSs_one _ _ _ _ _ _ _ _ (by simp)
  · exact ⟨fun ad h => by first | (cases h; done) | (injection h with h; subst h; first | (simp; done) | (simp; omega)), fun ad h => by first | (cases h; done) | (injection h with h; subst h; first | (simp; done) | (simp; omega)), fun ad h => by first | (cases h; done) | (injection h with h; subst h; first | (simp; done) | (simp; omega))⟩
  · repeat (first | assumption | exact Below.refl _ _ | refine grow_drew ?_ | refine grow_alloc ?_ _ | refine grow_trans ?_ (by assumption))

set_option maxRecDepth 100000 in
set_option maxHeartbeats 1000000 in
theorem pay_at (n : Int) (w : World) : Calls Try.prog 40 #[.int .i64 n] w fun e w' => ∃ ra ga sa rc gc sc, e = .returned (.agg #[.slice ra ([0, 1] : List Int).length rc, .slice ga [gPay n].length gc, .slice sa [s1Pay n, s2Pay n].length sc]) ∧ IsTx w' ra ga sa [0, 1] [gPay n] [s1Pay n, s2Pay n] ∧ XAt w.heap.size ra ga sa ∧ Below w.heap.size w w' := by
  go_enter Try.func40, Try.ntmps40
  go_wp2_with fail
  refine (lawNumber_any n _).mono ?_
  rintro e w' ⟨rfl, rfl⟩
  go_wp2_with fail
  refine (lawValue_any 0 _).mono ?_
  rintro e w' ⟨rfl, rfl⟩
  go_wp2_with fail
  refine (lawValue_any 0 _).mono ?_
  rintro e w' ⟨rfl, rfl⟩
  go_wp2_with fail
  refine (lawNumber_any n _).mono ?_
  rintro e w' ⟨rfl, rfl⟩
  go_wp2_with fail
  refine (lawValue_any 1 _).mono ?_
  rintro e w' ⟨rfl, rfl⟩
  go_wp2_with fail
  refine (lawNumber_any n _).mono ?_
  rintro e w' ⟨rfl, rfl⟩
  go_wp2
  refine bodyPost_ret (v := .agg #[.slice (some ⟨w.heap.size + 1, 0, none⟩) 2 2, .slice (some ⟨w.heap.size + 1 + 1 + 1 + 1, 0, none⟩) 1 1, .slice (some ⟨w.heap.size + 1 + 1 + 1 + 1 + 1 + 1 + 1 + 1 + 1, 0, none⟩) 2 2]) ?_ rfl ⟨_, _, _, _, _, _, rfl, ⟨?_, ?_, ?_, by simp [maxLen], by simp [maxLen], by simp [maxLen]⟩, ?_, ?_⟩
  · simp [results, Try.results40, go_sem]
  · generalize Obj.cells #[_, _, _] 26 = O0
    exact (isInts_two (w.alloc O0) (w.heap.size + 1) 0 1 (by simp)).below (by repeat (first | assumption | exact Below.refl _ _ | refine grow_drew ?_ | refine grow_alloc ?_ _ | refine grow_trans ?_ (by assumption)))
  · generalize Obj.cells #[_, _, _] 26 = O0
    exact (isGs_one ((((w.alloc O0).alloc (.cells #[.int .i64 0, .int .i64 1] 3)).alloc (.cells #[.int .i64 1, .int .i64 n] 45)).alloc (.cells #[.int .i64 2, .int .i64 0] 45)) (w.heap.size + 1 + 1 + 1 + 1) 4 1 n 2 0 (by simp)).below (by repeat (first | assumption | exact Below.refl _ _ | refine grow_drew ?_ | refine grow_alloc ?_ _ | refine grow_trans ?_ (by assumption)))
  · exact isSs_two _ _ _ _ _ _ _ _ _ _ _ _ _ _ (by simp)
  · exact ⟨fun ad h => by first | (cases h; done) | (injection h with h; subst h; first | (simp; done) | (simp; omega)), fun ad h => by first | (cases h; done) | (injection h with h; subst h; first | (simp; done) | (simp; omega)), fun ad h => by first | (cases h; done) | (injection h with h; subst h; first | (simp; done) | (simp; omega))⟩
  · repeat (first | assumption | exact Below.refl _ _ | refine grow_drew ?_ | refine grow_alloc ?_ _ | refine grow_trans ?_ (by assumption))

set_option maxRecDepth 100000 in
set_option maxHeartbeats 1000000 in
theorem mark_at (n : Int) (w : World) : Calls Try.prog 66 #[.int .i64 n] w fun e w' => ∃ sa sc, e = .returned (.agg #[.slice none ([] : List Int).length 0, .slice none ([] : List Gd).length 0, .slice sa [sMark n].length sc]) ∧ IsTx w' none none sa [] [] [sMark n] ∧ XAt w.heap.size none none sa ∧ Below w.heap.size w w' := by
  go_enter Try.func66, Try.ntmps66
  go_wp2_with fail
  refine (lawNumber_any n _).mono ?_
  rintro e w' ⟨rfl, rfl⟩
  go_wp2_with fail
  refine (lawNumber_any 0 _).mono ?_
  rintro e w' ⟨rfl, rfl⟩
  go_wp2
  refine bodyPost_ret (v := .agg #[.slice none 0 0, .slice none 0 0, .slice (some ⟨w.heap.size + 1 + 1 + 1, 0, none⟩) 1 1]) ?_ rfl ⟨_, _, rfl, ⟨?_, ?_, ?_, by simp [maxLen], by simp [maxLen], by simp [maxLen]⟩, ?_, ?_⟩
  · simp [results, Try.results66, go_sem]
  · exact fun i hi => absurd hi (by simp)
  · exact fun i hi => absurd hi (by simp)
  · exact isSs_one _ _ _ _ _ _ _ _ (by simp)
  · exact ⟨fun ad h => by first | (cases h; done) | (injection h with h; subst h; first | (simp; done) | (simp; omega)), fun ad h => by first | (cases h; done) | (injection h with h; subst h; first | (simp; done) | (simp; omega)), fun ad h => by first | (cases h; done) | (injection h with h; subst h; first | (simp; done) | (simp; omega))⟩
  · repeat (first | assumption | exact Below.refl _ _ | refine grow_drew ?_ | refine grow_alloc ?_ _ | refine grow_trans ?_ (by assumption))

set_option maxRecDepth 100000 in
set_option maxHeartbeats 1000000 in
theorem three_any (w : World) : Calls Try.prog 57 #[] w fun e w' => ∃ a ra ga sa rc gc sc ra2 sa2 rc2 sc2 sa3 sc3, e = .returned (.agg #[.int .i64 ((2 : Nat) : Int), .slice a [xPay ra ga sa rc gc sc, xNote ra2 sa2 rc2 sc2, xMark 9 sa3 sc3].length 3]) ∧ IsTxs w' a [xPay ra ga sa rc gc sc, xNote ra2 sa2 rc2 sc2, xMark 9 sa3 sc3] ∧ Below w.heap.size w w' := by
  go_enter Try.func57, Try.ntmps57
  have q0 : (w.alloc (.cells #[.int .i64 0, .slice none 0 0] 51)).cell? ⟨w.heap.size, 0, none⟩ = some (.int .i64 0) := by simp
  have q1 : (w.alloc (.cells #[.int .i64 0, .slice none 0 0] 51)).cell? ⟨w.heap.size, 1, none⟩ = some (.slice none 0 0) := by simp
  have qf : ∀ j, (w.alloc (.cells #[.int .i64 0, .slice none 0 0] 51)).frozen? ⟨w.heap.size, j, none⟩ = false := fun j => by simp
  have qs : w.heap.size < (w.alloc (.cells #[.int .i64 0, .slice none 0 0] 51)).heap.size := by simp
  have B0 : Hid (Below w.heap.size w (w.alloc (.cells #[.int .i64 0, .slice none 0 0] 51))) := grow_alloc (Below.refl _ _) _
  go_wp2_with fail
  generalize (w.alloc (.cells #[.int .i64 0, .slice none 0 0] 51)) = W at *
  refine (pay_at 3 _).mono ?_
  rintro e w1 ⟨ra, ga, sa, rc, gc, sc, rfl, ht1, hq1, hb1⟩
  have hx1 : Hid (IsX w1 (xPay ra ga sa rc gc sc)) := ⟨ht1, some_of_ints ht1.r, some_of_gs ht1.g, some_of_ss ht1.s⟩
  clear ht1
  go_wp2_with fail
  refine (note_at _).mono ?_
  rintro e w2 ⟨ra2, sa2, rc2, sc2, rfl, ht2, hq2, hb2⟩
  have hx2 : Hid (IsX w2 (xNote ra2 sa2 rc2 sc2)) := ⟨ht2, some_of_ints ht2.r, fun _ => rfl, some_of_ss ht2.s⟩
  clear ht2
  go_wp2_with fail
  refine (mark_at 9 _).mono ?_
  rintro e w3 ⟨sa3, sc3, rfl, ht3, hq3, hb3⟩
  have hx3 : Hid (IsX w3 (xMark 9 sa3 sc3)) := ⟨ht3, fun _ => rfl, fun _ => rfl, some_of_ss ht3.s⟩
  clear ht3
  have B3 : Below W.heap.size W w3 := grow_trans hb1 (grow_trans hb2 hb3)
  have r0 := ext_cell B3 q0
  have r1 := ext_cell B3 q1
  have rf : ∀ j, w3.frozen? ⟨w.heap.size, j, none⟩ = false := fun j => (B3.frozen (p := ⟨w.heap.size, j, none⟩) qs).trans (qf j)
  have y1 : Hid (IsX w3 (xPay ra ga sa rc gc sc)) := hx1.out.below (grow_trans hb2 hb3)
  have y2 : Hid (IsX w3 (xNote ra2 sa2 rc2 sc2)) := hx2.out.below hb3
  have BB : Hid (Below w.heap.size w w3) := grow_trans B0.out B3
  have s1 := hb1.size
  have s2 := hb2.size
  have s3 := hb3.size
  have z1 : Hid (XAt (w.heap.size + 1) ra ga sa) := hq1.low (by omega)
  have z2 : Hid (XAt (w.heap.size + 1) ra2 none sa2) := hq2.low (by omega)
  have z3 : Hid (XAt (w.heap.size + 1) none none sa3) := hq3.low (by omega)
  have hws : w.heap.size < w3.heap.size := by omega
  clear B3 hb1 hb2 hb3 hx1 hx2 q0 q1 qf B0 s1 s2 s3 hq1 hq2 hq3 qs
  go_wp2
  have t1 := far_x (far_x y1.out w.heap.size 0 (.int .i64 2) z1.out) w.heap.size 1 (.slice (some ⟨w3.heap.size, 0, none⟩) 3 3) z1.out
  have t2 := far_x (far_x y2.out w.heap.size 0 (.int .i64 2) z2.out) w.heap.size 1 (.slice (some ⟨w3.heap.size, 0, none⟩) 3 3) z2.out
  have t3 := far_x (far_x hx3.out w.heap.size 0 (.int .i64 2) z3.out) w.heap.size 1 (.slice (some ⟨w3.heap.size, 0, none⟩) 3 3) z3.out
  refine bodyPost_ret (v := .agg #[.int .i64 2, .slice (some ⟨w3.heap.size, 0, none⟩) 3 3]) ?_ rfl ⟨some ⟨w3.heap.size, 0, none⟩, ra, ga, sa, rc, gc, sc, ra2, sa2, rc2, sc2, sa3, sc3, rfl, ?_, ?_⟩
  · have e0 := fun (o : Obj) => (World.cell?_alloc_lt ((w3.setCell ⟨w.heap.size, 0, none⟩ (.int .i64 2)).setCell ⟨w.heap.size, 1, none⟩ (.slice (some ⟨w3.heap.size, 0, none⟩) 3 3)) o ⟨w.heap.size, 0, none⟩ (by simp; exact hws)).trans (show _ = some (.int .i64 2) by simp [go_sem, r0])
    have e1 := fun (o : Obj) => (World.cell?_alloc_lt ((w3.setCell ⟨w.heap.size, 0, none⟩ (.int .i64 2)).setCell ⟨w.heap.size, 1, none⟩ (.slice (some ⟨w3.heap.size, 0, none⟩) 3 3)) o ⟨w.heap.size, 1, none⟩ (by simp; exact hws)).trans (show _ = some (.slice (some ⟨w3.heap.size, 0, none⟩) 3 3) by simp [go_sem, r1])
    simp [results, Try.results57, go_sem, e0, e1]
  · exact isTxs_three _ (xPay ra ga sa rc gc sc) (xNote ra2 sa2 rc2 sc2) (xMark 9 sa3 sc3) _ (by simp) t1 t2 t3
  · exact grow_alloc (grow_set (grow_set BB.out (Nat.le_refl _) _) (Nat.le_refl _) _) _

end Go.Proofs.Ytfogphljilgogaa
