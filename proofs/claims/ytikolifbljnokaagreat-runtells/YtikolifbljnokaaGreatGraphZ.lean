/-
  graph.Swap: one and the next change places, in a copy.
  Conditions: the transactions can be read.
-/
import Derived.Test.YtikolifbljnokaaGreatGraphD
import Derived.Test.YtikolifbljnokaaGreatSeqZ
import Derived.Maps.AppendAt
import Derived.WalkKit
import Derived.WalkSpells
import Derived.WalkLawsBesides
import Derived.Defers
import Derived.Recover
import Derived.ProofKit
import Derived.Deep.RegionHeld
import Derived.Deep.RegionHeld3
import Derived.BigQuiet
import Derived.Deep.RegionLaw
import Derived.Deep.DeepCutAuto
import Derived.IntWalk
import Derived.Test.YtikolifbljnokaaGreatPlaceC
import Derived.Test.YtikolifbljnokaaGreatStoreZ
namespace Go.Proofs.YtikolifbljnokaaGreat
open Go.RowKit

/-- Is there such a one, and a next? -/
def nextE (n : Int) (k : Nat) : Int := if n < 0 ∨ (k : Int) - 1 ≤ n then 5 else 0

theorem nextE_zero {n : Int} {k : Nat} (h : nextE n k = 0) : 0 ≤ n ∧ n + 1 < k := by
  unfold nextE at h
  by_cases c : n < 0 ∨ (k : Int) - 1 ≤ n
  · rw [if_pos c] at h; omega
  · omega

/-- One and the next change places. -/
def swapX (l : List TxA) (n : Nat) : List TxA := (l.set n (l.getD (n + 1) x0)).set (n + 1) (l.getD n x0)
def set3 (L : List Value) (i : Nat) (x : TxA) : List Value := ((L.set (i * 3) (.slice x.ra x.rs.length x.rc)).set (i * 3 + 1) (.slice x.ga x.gs.length x.gc)).set (i * 3 + 2) (.slice x.sa x.ss.length x.sc)
theorem flatX_set : ∀ (l : List TxA) (i : Nat) (x : TxA), i < l.length → flatX (l.set i x) = set3 (flatX l) i x
  | [], i, x, h => by simp at h
  | y :: t, 0, x, _ => by simp [flatX, xcells, set3]
  | y :: t, i + 1, x, h => by
    have ih := flatX_set t i x (by simpa using h)
    have e1 : (i + 1) * 3 = i * 3 + 1 + 1 + 1 := by omega
    rw [List.set_cons_succ]
    unfold set3 at *
    rw [e1]
    simp only [flatX, xcells, List.cons_append, List.nil_append, List.set_cons_succ]
    rw [ih]

theorem TxRow.at {C : Nat} {w : World} {v : Value} {l : List TxA} (h : TxRow C w v l) (h0 : 0 < l.length) : ∃ g cap, v = .slice (some ⟨g, 0, none⟩) l.length cap ∧ C ≤ g ∧ ∀ i, i < l.length → w.cell? ⟨g, i * 3, none⟩ = some (.slice (l.getD i x0).ra (l.getD i x0).rs.length (l.getD i x0).rc) ∧ w.cell? ⟨g, i * 3 + 1, none⟩ = some (.slice (l.getD i x0).ga (l.getD i x0).gs.length (l.getD i x0).gc) ∧ w.cell? ⟨g, i * 3 + 2, none⟩ = some (.slice (l.getD i x0).sa (l.getD i x0).ss.length (l.getD i x0).sc) ∧ w.frozen? ⟨g, i * 3, none⟩ = false ∧ w.frozen? ⟨g, i * 3 + 1, none⟩ = false ∧ w.frozen? ⟨g, i * 3 + 2, none⟩ = false := by
  rcases h.1.2 with ⟨rfl, h1⟩ | ⟨g, cap, cur, rfl, hb, hg, hnc, hcm, hcs, htake⟩
  · omega
  · refine ⟨g, cap, rfl, hb, fun i hi => ?_⟩
    have hc : ∀ j, j < 3 → w.cell? ⟨g, i * 3 + j, none⟩ = (xcells (l.getD i x0))[j]? := fun j hj => by
      rw [h.1.cellAt (i * 3 + j) (by omega)]
      exact flatX_at l i j hi hj
    exact ⟨hc 0 (by omega), hc 1 (by omega), hc 2 (by omega), h.1.frozenAt _, h.1.frozenAt _, h.1.frozenAt _⟩

/-- A transaction laid into a row of one's own. -/
def put3 (w : World) (g i : Nat) (x : TxA) : World := ((w.setCell ⟨g, i * 3, none⟩ (.slice x.ra x.rs.length x.rc)).setCell ⟨g, i * 3 + 1, none⟩ (.slice x.ga x.gs.length x.gc)).setCell ⟨g, i * 3 + 2, none⟩ (.slice x.sa x.ss.length x.sc)
theorem put3_grown (w : World) (g i : Nat) (x : TxA) : w.grownBy (put3 w g i x) (some g) := ((grown_one w g _ _).trans (grown_one _ g _ _)).trans (grown_one _ g _ _)
theorem TxRow.put {C : Nat} {w : World} {g cap k : Nat} {l : List TxA} (h : TxRow C w (.slice (some ⟨g, 0, none⟩) k cap) l) (hk : k = l.length) (i : Nat) (hi : i < l.length) (x : TxA) (hx : IsX w x ∧ XIn C w.heap.size (.slice (some ⟨g, 0, none⟩) k cap) x) : TxRow C (put3 w g i x) (.slice (some ⟨g, 0, none⟩) k cap) (l.set i x) := by
  have hs : (put3 w g i x).heap.size = w.heap.size := by simp [put3]
  subst hk
  refine ⟨?_, fun y hy => ?_⟩
  · rw [List.length_set, flatX_set l i x hi]
    exact (((h.1.stored (i * 3) _).1.stored (i * 3 + 1) _).1.stored (i * 3 + 2) _).1
  · have key : IsX w y ∧ XIn C w.heap.size (.slice (some ⟨g, 0, none⟩) l.length cap) y := by
      rcases List.mem_or_eq_of_mem_set hy with hy | rfl
      · exact h.2 y hy
      · exact hx
    refine ⟨key.1.keptBy (put3_grown w g i x) (fun ad e q => key.2.nr ad e ?_) (fun ad e q => key.2.ng ad e ?_) (fun ad e q => key.2.ns ad e ?_), by rw [hs]; exact key.2⟩
    · exact q
    · exact q
    · exact q
theorem TxRow.swap {C : Nat} {w : World} {g cap k : Nat} {l : List TxA} (h : TxRow C w (.slice (some ⟨g, 0, none⟩) k cap) l) (hk : k = l.length) (n : Nat) (hn : n + 1 < l.length) : TxRow C (put3 (put3 w g n (l.getD (n + 1) x0)) g (n + 1) (l.getD n x0)) (.slice (some ⟨g, 0, none⟩) k cap) (swapX l n) := by
  have m1 : l.getD (n + 1) x0 ∈ l := by simp [List.getD, hn]
  have m0 : l.getD n x0 ∈ l := by
    have : n < l.length := by omega
    simp [List.getD, this]
  refine (h.put hk n (by omega) _ (h.2 _ m1)).put (by rw [List.length_set]; exact hk) (n + 1) (by rw [List.length_set]; exact hn) _ ?_
  have key := h.2 _ m0
  refine ⟨key.1.keptBy (put3_grown w g n _) (fun ad e q => key.2.nr ad e ?_) (fun ad e q => key.2.ng ad e ?_) (fun ad e q => key.2.ns ad e ?_), ?_⟩
  · exact q
  · exact q
  · exact q
  · rw [show (put3 w g n (l.getD (n + 1) x0)).heap.size = w.heap.size by simp [put3]]
    exact key.2
theorem swapX_core {l m : List TxA} (h : l.map TxA.core = m.map TxA.core) (n : Nat) : (swapX l n).map TxA.core = (swapX m n).map TxA.core := by
  unfold swapX
  rw [List.map_set, List.map_set, List.map_set, List.map_set, h, core_at h, core_at h]
theorem put3_below {w w' : World} (h : Below w.heap.size w w') (g i : Nat) (x : TxA) (hg : w.heap.size ≤ g) : Below w.heap.size w (put3 w' g i x) := grow_set (grow_set (grow_set h hg _) hg _) hg _

variable (la : Option Addr) (lc : Nat) (l : List TxA)

/-- What Swap answers. -/
def swE (l : List TxA) (n : Int) : Int := if firstNZ [chkL l, nextE n l.length] = 0 then (if clashX (gX l n.toNat) (gX l (n.toNat + 1)) = true then 1 else 0) else firstNZ [chkL l, nextE n l.length]
def swL (l : List TxA) (n : Int) : List TxA := if swE l n = 0 then swapX l n.toNat else []

end Go.Proofs.YtikolifbljnokaaGreat

/-
  The document's own SwapOf.
  Conditions: the transactions can be read.
-/
namespace Go.Proofs.YtikolifbljnokaaGreat
open Go.RowKit

theorem own_put3 {C : Nat} {w : World} {g cap : Nat} {l : List TxA} (h : w.ownsRow C 38 3 (.slice (some ⟨g, 0, none⟩) l.length cap) l.length (flatX l)) (i : Nat) (hi : i < l.length) (x : TxA) : (put3 w g i x).ownsRow C 38 3 (.slice (some ⟨g, 0, none⟩) l.length cap) l.length (flatX (l.set i x)) := by
  rw [flatX_set l i x hi]
  exact (((h.stored (i * 3) _).1.stored (i * 3 + 1) _).1.stored (i * 3 + 2) _).1
theorem own_swap {C : Nat} {w : World} {g cap : Nat} {l : List TxA} (h : w.ownsRow C 38 3 (.slice (some ⟨g, 0, none⟩) l.length cap) l.length (flatX l)) (n : Nat) (hn : n + 1 < l.length) : (put3 (put3 w g n (l.getD (n + 1) x0)) g (n + 1) (l.getD n x0)).ownsRow C 38 3 (.slice (some ⟨g, 0, none⟩) l.length cap) l.length (flatX (swapX l n)) := by
  have h1 := own_put3 h n (by omega) (l.getD (n + 1) x0)
  have h2 := own_put3 (l := l.set n (l.getD (n + 1) x0)) (by rw [List.length_set]; exact h1) (n + 1) (by rw [List.length_set]; exact hn) (l.getD n x0)
  rw [List.length_set] at h2
  exact h2
theorem swapX_mem {l : List TxA} {n : Nat} (hn : n + 1 < l.length) {x : TxA} (h : x ∈ swapX l n) : x ∈ l := by
  unfold swapX at h
  have m1 : l.getD (n + 1) x0 ∈ l := by simp [List.getD, hn]
  have m0 : l.getD n x0 ∈ l := by
    have : n < l.length := by omega
    simp [List.getD, this]
  rcases List.mem_or_eq_of_mem_set h with h | rfl
  · rcases List.mem_or_eq_of_mem_set h with h | rfl
    · exact h
    · exact m1
  · exact m0
theorem swapX_len (l : List TxA) (n : Nat) : (swapX l n).length = l.length := by simp [swapX]
theorem IsTxs.mem {w : World} {a : Option Addr} {l : List TxA} (h : IsTxs w a l) {x : TxA} (hx : x ∈ l) : IsX w x := by
  obtain ⟨i, hi, rfl⟩ := List.mem_iff_getElem.1 hx
  obtain ⟨_, _, _, _, _, _, _, hX⟩ := h i hi
  have e : l.getD i x0 = l[i] := by simp [List.getD, hi]
  rw [e] at hX
  exact hX
theorem own_at3 {C : Nat} {w : World} {v : Value} {l : List TxA} (h : w.ownsRow C 38 3 v l.length (flatX l)) (h0 : 0 < l.length) : ∃ g cap, v = .slice (some ⟨g, 0, none⟩) l.length cap ∧ C ≤ g ∧ ∀ i, i < l.length → w.cell? ⟨g, i * 3, none⟩ = some (.slice (l.getD i x0).ra (l.getD i x0).rs.length (l.getD i x0).rc) ∧ w.cell? ⟨g, i * 3 + 1, none⟩ = some (.slice (l.getD i x0).ga (l.getD i x0).gs.length (l.getD i x0).gc) ∧ w.cell? ⟨g, i * 3 + 2, none⟩ = some (.slice (l.getD i x0).sa (l.getD i x0).ss.length (l.getD i x0).sc) ∧ w.frozen? ⟨g, i * 3, none⟩ = false ∧ w.frozen? ⟨g, i * 3 + 1, none⟩ = false ∧ w.frozen? ⟨g, i * 3 + 2, none⟩ = false := by
  rcases h.2 with ⟨rfl, h1⟩ | ⟨g, cap, cur, rfl, hb, hg, hnc, hcm, hcs, htake⟩
  · omega
  · refine ⟨g, cap, rfl, hb, fun i hi => ?_⟩
    have hc : ∀ j, j < 3 → w.cell? ⟨g, i * 3 + j, none⟩ = (xcells (l.getD i x0))[j]? := fun j hj => by
      rw [h.cellAt (i * 3 + j) (by omega)]
      exact flatX_at l i j hi hj
    exact ⟨hc 0 (by omega), hc 1 (by omega), hc 2 (by omega), h.frozenAt _, h.frozenAt _, h.frozenAt _⟩

variable (la : Option Addr) (lc : Nat) (l : List TxA)

end Go.Proofs.YtikolifbljnokaaGreat

/-
  The transactions of the statements' own plan (mark, three).
  Conditions: none.
-/
namespace Go.Proofs.YtikolifbljnokaaGreat
open Go.RowKit

def sMark (n : Int) : St := ⟨7, 1, 1, n, 1, 0⟩
abbrev xMark (n : Int) (sa : Option Addr) (sc : Nat) : TxA := ⟨none, none, sa, 0, 0, sc, [], [], [sMark n]⟩

/-- No list of a transaction lies below C. -/
def XAt (C : Nat) (ra ga sa : Option Addr) : Prop := (∀ ad, ra = some ad → C ≤ ad.block) ∧ (∀ ad, ga = some ad → C ≤ ad.block) ∧ (∀ ad, sa = some ad → C ≤ ad.block)
theorem XAt.low {C C' : Nat} {ra ga sa : Option Addr} (h : XAt C ra ga sa) (hc : C' ≤ C) : XAt C' ra ga sa :=
  ⟨fun ad e => Nat.le_trans hc (h.1 ad e), fun ad e => Nat.le_trans hc (h.2.1 ad e), fun ad e => Nat.le_trans hc (h.2.2 ad e)⟩
theorem far_ints {w : World} {a : Option Addr} {zs : List Int} (h : IsInts w a zs) (b j : Nat) (v : Value) (hne : ∀ ad, a = some ad → b < ad.block) : IsInts (w.setCell ⟨b, j, none⟩ v) a zs := fun i hi => by
  obtain ⟨b', off, ha, hlt, hc⟩ := h i hi
  have hn : b < b' := hne _ ha
  exact ⟨b', off, ha, by simpa using hlt, by rw [World.cell?_setCell_far _ _ _ _ (by simp; omega)]; exact hc⟩
theorem far_gs {w : World} {a : Option Addr} {zs : List Gd} (h : IsGs w a zs) (b j : Nat) (v : Value) (hne : ∀ ad, a = some ad → b < ad.block) : IsGs (w.setCell ⟨b, j, none⟩ v) a zs := fun i hi => by
  obtain ⟨b', off, ha, hlt, c0, c1, c2, c3, c4⟩ := h i hi
  have hn : b < b' := hne _ ha
  have far : ∀ k u, w.cell? ⟨b', k, none⟩ = some u → (w.setCell ⟨b, j, none⟩ v).cell? ⟨b', k, none⟩ = some u := fun k u hc => by rw [World.cell?_setCell_far _ _ _ _ (by simp; omega)]; exact hc
  exact ⟨b', off, ha, by simpa using hlt, far _ _ c0, far _ _ c1, far _ _ c2, far _ _ c3, far _ _ c4⟩
theorem far_ss {w : World} {a : Option Addr} {zs : List St} (h : IsSs w a zs) (b j : Nat) (v : Value) (hne : ∀ ad, a = some ad → b < ad.block) : IsSs (w.setCell ⟨b, j, none⟩ v) a zs := fun i hi => by
  obtain ⟨b', off, ha, hlt, c0, c1, c2, c3, c4, c5⟩ := h i hi
  have hn : b < b' := hne _ ha
  have far : ∀ k u, w.cell? ⟨b', k, none⟩ = some u → (w.setCell ⟨b, j, none⟩ v).cell? ⟨b', k, none⟩ = some u := fun k u hc => by rw [World.cell?_setCell_far _ _ _ _ (by simp; omega)]; exact hc
  exact ⟨b', off, ha, by simpa using hlt, far _ _ c0, far _ _ c1, far _ _ c2, far _ _ c3, far _ _ c4, far _ _ c5⟩
theorem far_x {w : World} {x : TxA} (h : IsX w x) (b j : Nat) (v : Value) (hx : XAt (b + 1) x.ra x.ga x.sa) : IsX (w.setCell ⟨b, j, none⟩ v) x :=
  ⟨⟨far_ints h.t.r b j v (fun ad e => hx.1 ad e), far_gs h.t.g b j v (fun ad e => hx.2.1 ad e), far_ss h.t.s b j v (fun ad e => hx.2.2 ad e), h.t.lr, h.t.lg, h.t.ls⟩, h.rn, h.gn, h.sn⟩
theorem far_txs {w : World} {a : Option Addr} {l : List TxA} (h : IsTxs w a l) (b j : Nat) (v : Value) (hne : ∀ ad, a = some ad → b < ad.block) (hx : ∀ x ∈ l, XAt (b + 1) x.ra x.ga x.sa) : IsTxs (w.setCell ⟨b, j, none⟩ v) a l := fun i hi => by
  obtain ⟨b', off, ha, hlt, c0, c1, c2, hX⟩ := h i hi
  have hn : b < b' := hne _ ha
  have far : ∀ k u, w.cell? ⟨b', k, none⟩ = some u → (w.setCell ⟨b, j, none⟩ v).cell? ⟨b', k, none⟩ = some u := fun k u hc => by rw [World.cell?_setCell_far _ _ _ _ (by simp; omega)]; exact hc
  exact ⟨b', off, ha, by simpa using hlt, far _ _ c0, far _ _ c1, far _ _ c2, far_x hX b j v (hx _ (by simp [List.getD, hi]))⟩

set_option maxRecDepth 100000 in
set_option maxHeartbeats 1000000 in
theorem note_at (w : World) : Calls Tryz.prog 18 #[] w fun e w' => ∃ ra sa rc sc, e = .returned (.agg #[.slice ra ([1] : List Int).length rc, .slice none ([] : List Gd).length 0, .slice sa [sNote].length sc]) ∧ IsTx w' ra none sa [1] [] [sNote] ∧ XAt w.heap.size ra none sa ∧ Below w.heap.size w w' := by
  go_enter Tryz.func18, Tryz.ntmps18
  go_wp2_with fail
  refine (lawValue_any 0 _).mono ?_
  rintro e w' ⟨rfl, rfl⟩
  go_wp2_with fail
  refine (lawNumber_any 0 _).mono ?_
  rintro e w' ⟨rfl, rfl⟩
  go_wp2
  refine bodyPost_ret (v := .agg #[.slice (some ⟨w.heap.size + 1, 0, none⟩) 1 1, .slice none 0 0, .slice (some ⟨w.heap.size + 1 + 1 + 1 + 1, 0, none⟩) 1 1]) ?_ rfl ⟨_, _, _, _, rfl, ⟨?_, ?_, ?_, by decide, by decide, by decide⟩, ?_, ?_⟩
  · simp [results, Tryz.results18, go_sem]
  · generalize Obj.cells #[_, _, _] 38 = O0
    exact (isInts_one (w.alloc O0) (w.heap.size + 1) 1 (by simp)).below (by repeat (first | assumption | exact Below.refl _ _ | refine grow_drew ?_ | refine grow_alloc ?_ _ | refine grow_trans ?_ (by assumption)))
  · exact fun i hi => absurd hi (by simp)
  · exact isSs_one _ _ _ _ _ _ _ _ (by simp)
  · exact ⟨fun ad h => by first | (cases h; done) | (injection h with h; subst h; first | (simp; done) | (simp; omega)), fun ad h => by first | (cases h; done) | (injection h with h; subst h; first | (simp; done) | (simp; omega)), fun ad h => by first | (cases h; done) | (injection h with h; subst h; first | (simp; done) | (simp; omega))⟩
  · repeat (first | assumption | exact Below.refl _ _ | refine grow_drew ?_ | refine grow_alloc ?_ _ | refine grow_trans ?_ (by assumption))

set_option maxRecDepth 100000 in
set_option maxHeartbeats 1000000 in
theorem pay_at (n : Int) (w : World) : Calls Tryz.prog 17 #[.int .i64 n] w fun e w' => ∃ ra ga sa rc gc sc, e = .returned (.agg #[.slice ra ([0, 1] : List Int).length rc, .slice ga [gPay n].length gc, .slice sa [s1Pay n, s2Pay n].length sc]) ∧ IsTx w' ra ga sa [0, 1] [gPay n] [s1Pay n, s2Pay n] ∧ XAt w.heap.size ra ga sa ∧ Below w.heap.size w w' := by
  go_enter Tryz.func17, Tryz.ntmps17
  go_wp2_with fail
  refine (lawNumber_any n _).mono ?_
  rintro e w' ⟨rfl, rfl⟩
  go_wp2_with fail
  refine (lawValue_any 0 _).mono ?_
  rintro e w' ⟨rfl, rfl⟩
  go_wp2_with fail
  refine (lawValue_any 0 _).mono ?_
  rintro e w' ⟨rfl, rfl⟩
  go_wp2_with fail
  refine (lawNumber_any n _).mono ?_
  rintro e w' ⟨rfl, rfl⟩
  go_wp2_with fail
  refine (lawValue_any 1 _).mono ?_
  rintro e w' ⟨rfl, rfl⟩
  go_wp2_with fail
  refine (lawNumber_any n _).mono ?_
  rintro e w' ⟨rfl, rfl⟩
  go_wp2
  refine bodyPost_ret (v := .agg #[.slice (some ⟨w.heap.size + 1, 0, none⟩) 2 2, .slice (some ⟨w.heap.size + 1 + 1 + 1 + 1, 0, none⟩) 1 1, .slice (some ⟨w.heap.size + 1 + 1 + 1 + 1 + 1 + 1 + 1 + 1 + 1, 0, none⟩) 2 2]) ?_ rfl ⟨_, _, _, _, _, _, rfl, ⟨?_, ?_, ?_, by simp [maxLen], by simp [maxLen], by simp [maxLen]⟩, ?_, ?_⟩
  · simp [results, Tryz.results17, go_sem]
  · generalize Obj.cells #[_, _, _] 38 = O0
    exact (isInts_two (w.alloc O0) (w.heap.size + 1) 0 1 (by simp)).below (by repeat (first | assumption | exact Below.refl _ _ | refine grow_drew ?_ | refine grow_alloc ?_ _ | refine grow_trans ?_ (by assumption)))
  · generalize Obj.cells #[_, _, _] 38 = O0
    exact (isGs_one ((((w.alloc O0).alloc (.cells #[.int .i64 0, .int .i64 1] 3)).alloc (.cells #[.int .i64 1, .int .i64 n] 68)).alloc (.cells #[.int .i64 2, .int .i64 0] 68)) (w.heap.size + 1 + 1 + 1 + 1) 4 1 n 2 0 (by simp)).below (by repeat (first | assumption | exact Below.refl _ _ | refine grow_drew ?_ | refine grow_alloc ?_ _ | refine grow_trans ?_ (by assumption)))
  · exact isSs_two _ _ _ _ _ _ _ _ _ _ _ _ _ _ (by simp)
  · exact ⟨fun ad h => by first | (cases h; done) | (injection h with h; subst h; first | (simp; done) | (simp; omega)), fun ad h => by first | (cases h; done) | (injection h with h; subst h; first | (simp; done) | (simp; omega)), fun ad h => by first | (cases h; done) | (injection h with h; subst h; first | (simp; done) | (simp; omega))⟩
  · repeat (first | assumption | exact Below.refl _ _ | refine grow_drew ?_ | refine grow_alloc ?_ _ | refine grow_trans ?_ (by assumption))

set_option maxRecDepth 100000 in
set_option maxHeartbeats 1000000 in
theorem mark_at (n : Int) (w : World) : Calls Tryz.prog 19 #[.int .i64 n] w fun e w' => ∃ sa sc, e = .returned (.agg #[.slice none ([] : List Int).length 0, .slice none ([] : List Gd).length 0, .slice sa [sMark n].length sc]) ∧ IsTx w' none none sa [] [] [sMark n] ∧ XAt w.heap.size none none sa ∧ Below w.heap.size w w' := by
  go_enter Tryz.func19, Tryz.ntmps19
  go_wp2_with fail
  refine (lawNumber_any n _).mono ?_
  rintro e w' ⟨rfl, rfl⟩
  go_wp2_with fail
  refine (lawNumber_any 0 _).mono ?_
  rintro e w' ⟨rfl, rfl⟩
  go_wp2
  refine bodyPost_ret (v := .agg #[.slice none 0 0, .slice none 0 0, .slice (some ⟨w.heap.size + 1 + 1 + 1, 0, none⟩) 1 1]) ?_ rfl ⟨_, _, rfl, ⟨?_, ?_, ?_, by simp [maxLen], by simp [maxLen], by simp [maxLen]⟩, ?_, ?_⟩
  · simp [results, Tryz.results19, go_sem]
  · exact fun i hi => absurd hi (by simp)
  · exact fun i hi => absurd hi (by simp)
  · exact isSs_one _ _ _ _ _ _ _ _ (by simp)
  · exact ⟨fun ad h => by first | (cases h; done) | (injection h with h; subst h; first | (simp; done) | (simp; omega)), fun ad h => by first | (cases h; done) | (injection h with h; subst h; first | (simp; done) | (simp; omega)), fun ad h => by first | (cases h; done) | (injection h with h; subst h; first | (simp; done) | (simp; omega))⟩
  · repeat (first | assumption | exact Below.refl _ _ | refine grow_drew ?_ | refine grow_alloc ?_ _ | refine grow_trans ?_ (by assumption))

end Go.Proofs.YtikolifbljnokaaGreat

/-
  The statements' own begun examples of the graph (graphBegun).
  Conditions: none.
-/
namespace Go.Proofs.YtikolifbljnokaaGreat
open Go.RowKit

def payC (n : Int) : Core := ([0, 1], [gPay n], [s1Pay n, s2Pay n])
def noteC : Core := ([1], [], [sNote])
def markC (n : Int) : Core := ([], [], [sMark n])
/-- A transaction that says this, wherever its lists lie. -/
def mkX (c : Core) : TxA := ⟨none, none, none, 0, 0, 0, c.1, c.2.1, c.2.2⟩

theorem pay_x (n : Int) (w : World) : Calls Tryz.prog 17 #[.int .i64 n] w fun e w' => ∃ x : TxA, e = .returned (.agg #[.slice x.ra x.rs.length x.rc, .slice x.ga x.gs.length x.gc, .slice x.sa x.ss.length x.sc]) ∧ Hid (IsX w' x) ∧ Hid (x.core = payC n) ∧ Below w.heap.size w w' := by
  refine (pay_at n w).mono ?_
  rintro e w' ⟨ra, ga, sa, rc, gc, sc, rfl, ht, _, hb⟩
  exact ⟨⟨ra, ga, sa, rc, gc, sc, [0, 1], [gPay n], [s1Pay n, s2Pay n]⟩, rfl, ⟨ht, some_of_ints ht.r, some_of_gs ht.g, some_of_ss ht.s⟩, (rfl : _ = _), hb⟩
theorem note_x (w : World) : Calls Tryz.prog 18 #[] w fun e w' => ∃ x : TxA, e = .returned (.agg #[.slice x.ra x.rs.length x.rc, .slice x.ga x.gs.length x.gc, .slice x.sa x.ss.length x.sc]) ∧ Hid (IsX w' x) ∧ Hid (x.core = noteC) ∧ Below w.heap.size w w' := by
  refine (note_at w).mono ?_
  rintro e w' ⟨ra, sa, rc, sc, rfl, ht, _, hb⟩
  exact ⟨⟨ra, none, sa, rc, 0, sc, [1], [], [sNote]⟩, rfl, ⟨ht, some_of_ints ht.r, fun _ => rfl, some_of_ss ht.s⟩, (rfl : _ = _), hb⟩
theorem mark_x (n : Int) (w : World) : Calls Tryz.prog 19 #[.int .i64 n] w fun e w' => ∃ x : TxA, e = .returned (.agg #[.slice x.ra x.rs.length x.rc, .slice x.ga x.gs.length x.gc, .slice x.sa x.ss.length x.sc]) ∧ Hid (IsX w' x) ∧ Hid (x.core = markC n) ∧ Below w.heap.size w w' := by
  refine (mark_at n w).mono ?_
  rintro e w' ⟨sa, sc, rfl, ht, _, hb⟩
  exact ⟨⟨none, none, sa, 0, 0, sc, [], [], [sMark n]⟩, rfl, ⟨ht, fun _ => rfl, fun _ => rfl, some_of_ss ht.s⟩, (rfl : _ = _), hb⟩

/-- All that is asked of transactions hangs on what they say. -/
theorem core_parts {x y : TxA} (h : x.core = y.core) : x.rs = y.rs ∧ x.gs = y.gs ∧ x.ss = y.ss := by
  unfold TxA.core at h
  injection h with h1 h2
  injection h2 with h2 h3
  exact ⟨h1, h2, h3⟩
theorem chkX_core {x y : TxA} (h : x.core = y.core) : chkX x = chkX y := by
  obtain ⟨h1, h2, h3⟩ := core_parts h
  unfold chkX
  rw [h1, h2, h3]
theorem clashX_core {x y x' y' : TxA} (h : x.core = x'.core) (h' : y.core = y'.core) : clashX x y = clashX x' y' := by
  obtain ⟨h1, _, h3⟩ := core_parts h
  obtain ⟨k1, _, k3⟩ := core_parts h'
  unfold clashX clashTo clashAt rdX wrX
  rw [h1, h3, k1, k3]
theorem clE_core {x y x' y' : TxA} (h : x.core = x'.core) (h' : y.core = y'.core) : clE x y = clE x' y' := by
  unfold clE
  rw [chkX_core h, chkX_core h']
theorem clB_core {x y x' y' : TxA} (h : x.core = x'.core) (h' : y.core = y'.core) : clB x y = clB x' y' := by
  unfold clB
  rw [clE_core h h', clashX_core h h']
theorem len_core {l m : List TxA} (h : l.map TxA.core = m.map TxA.core) : l.length = m.length := by
  have := congrArg List.length h
  simpa using this
theorem chkL_core {l m : List TxA} (h : l.map TxA.core = m.map TxA.core) : chkL l = chkL m := by
  have e : l.map chkX = m.map chkX := by
    refine List.ext_getElem? fun i => ?_
    have hi := congrArg (·[i]?) h
    simp only [List.getElem?_map] at hi ⊢
    cases h1 : l[i]? <;> cases h2 : m[i]? <;> simp_all
    exact chkX_core hi
  unfold chkL
  rw [e, len_core h]
theorem edgesIn_core {l m : List TxA} (h : l.map TxA.core = m.map TxA.core) (i : Nat) : ∀ k, edgesIn l i k = edgesIn m i k
  | 0 => rfl
  | k + 1 => by rw [edgesIn, edgesIn, edgesIn_core h i k, clashX_core (core_at h i) (core_at h k) (x := gX l i) (y := gX l k)]; rfl
theorem edgesTo_core {l m : List TxA} (h : l.map TxA.core = m.map TxA.core) : ∀ k, edgesTo l k = edgesTo m k
  | 0 => rfl
  | k + 1 => by rw [edgesTo, edgesTo, edgesTo_core h k, len_core h, edgesIn_core h k]
theorem edE_core {l m : List TxA} (h : l.map TxA.core = m.map TxA.core) : edE l = edE m := by
  unfold edE edgesL
  rw [chkL_core h, len_core h, edgesTo_core h]
theorem swE_core {l m : List TxA} (h : l.map TxA.core = m.map TxA.core) (n : Int) : swE l n = swE m n := by
  unfold swE
  rw [chkL_core h, len_core h, clashX_core (core_at h n.toNat) (core_at h (n.toNat + 1)) (x := gX l n.toNat) (y := gX l (n.toNat + 1))]
  rfl
theorem swL_core {l m : List TxA} (h : l.map TxA.core = m.map TxA.core) (n : Int) : (swL l n).map TxA.core = (swL m n).map TxA.core := by
  unfold swL
  rw [swE_core h]
  split
  · exact swapX_core h _
  · rfl

theorem isTxs_2 (w : World) (x y : TxA) (n : Nat) (hn : n = w.heap.size) (hx : IsX w x) (hy : IsX w y) : IsTxs (w.alloc (.cells #[.slice x.ra x.rs.length x.rc, .slice x.ga x.gs.length x.gc, .slice x.sa x.ss.length x.sc, .slice y.ra y.rs.length y.rc, .slice y.ga y.gs.length y.gc, .slice y.sa y.ss.length y.sc] 38)) (some ⟨n, 0, none⟩) [x, y] := by
  subst hn
  intro i hi
  match i, hi with
  | 0, _ => exact ⟨w.heap.size, 0, rfl, by simp, by simp, by simp, by simp, hx.below (grow_alloc (Below.refl _ _) _)⟩
  | 1, _ => exact ⟨w.heap.size, 0, rfl, by simp, by simp, by simp, by simp, hy.below (grow_alloc (Below.refl _ _) _)⟩
theorem isTxs_4 (w : World) (x y z u : TxA) (n : Nat) (hn : n = w.heap.size) (hx : IsX w x) (hy : IsX w y) (hz : IsX w z) (hu : IsX w u) : IsTxs (w.alloc (.cells #[.slice x.ra x.rs.length x.rc, .slice x.ga x.gs.length x.gc, .slice x.sa x.ss.length x.sc, .slice y.ra y.rs.length y.rc, .slice y.ga y.gs.length y.gc, .slice y.sa y.ss.length y.sc, .slice z.ra z.rs.length z.rc, .slice z.ga z.gs.length z.gc, .slice z.sa z.ss.length z.sc, .slice u.ra u.rs.length u.rc, .slice u.ga u.gs.length u.gc, .slice u.sa u.ss.length u.sc] 38)) (some ⟨n, 0, none⟩) [x, y, z, u] := by
  subst hn
  intro i hi
  match i, hi with
  | 0, _ => exact ⟨w.heap.size, 0, rfl, by simp, by simp, by simp, by simp, hx.below (grow_alloc (Below.refl _ _) _)⟩
  | 1, _ => exact ⟨w.heap.size, 0, rfl, by simp, by simp, by simp, by simp, hy.below (grow_alloc (Below.refl _ _) _)⟩
  | 2, _ => exact ⟨w.heap.size, 0, rfl, by simp, by simp, by simp, by simp, hz.below (grow_alloc (Below.refl _ _) _)⟩
  | 3, _ => exact ⟨w.heap.size, 0, rfl, by simp, by simp, by simp, by simp, hu.below (grow_alloc (Below.refl _ _) _)⟩

theorem gbE1 : clE (mkX (payC 1)) (mkX noteC) = 0 := by decide
theorem gbB1 : clB (mkX (payC 1)) (mkX noteC) = true := by decide
theorem gbE2 : clE (mkX noteC) (mkX (markC 1)) = 0 := by decide
theorem gbB2 : clB (mkX noteC) (mkX (markC 1)) = false := by decide
theorem gbE3 : chkL [mkX (payC 1), mkX noteC, mkX (markC 1), mkX (payC 2)] = 0 := by decide
theorem gbL3 : edE [mkX (payC 1), mkX noteC, mkX (markC 1), mkX (payC 2)] = [(0, 1), (0, 3), (1, 3)] := by decide
theorem gbE4 : swE [mkX noteC, mkX (markC 1)] 0 = 0 := by decide
theorem gbE5 : swE [mkX (payC 1), mkX noteC] 0 = 1 := by decide

end Go.Proofs.YtikolifbljnokaaGreat
