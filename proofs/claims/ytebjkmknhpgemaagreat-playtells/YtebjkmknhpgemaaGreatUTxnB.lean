/-
  
  Conditions: those that each theorem states.
-/
import Derived.Test.YtebjkmknhpgemaaGreatUVals1
import Derived.OpenShut
import Derived.ChangeOld
import Derived.Lib.SmallJoins
import Derived.Deep.RegionHeld
set_option maxRecDepth 100000
namespace Go.Proofs.YtebjkmknhpgemaaGreat
open Go.RowKit
def IsInts (w : World) (a : Option Addr) (zs : List Int) : Prop :=
 ∀ i, i < zs.length → ∃ b off, a = some ⟨b, off, none⟩ ∧ b < w.heap.size ∧ w.cell? ⟨b, off + i, none⟩ = some (.int .i64 (zs.getD i 0))
theorem IsInts.below {w w' : World} {a : Option Addr} {zs : List Int} (h : IsInts w a zs) (hb : Below w.heap.size w w') : IsInts w' a zs := by
 intro i hi
 obtain ⟨b, off, ha, hlt, hc⟩ := h i hi
 exact ⟨b, off, ha, Nat.lt_of_lt_of_le hlt hb.size, by rw [hb.cell (p := ⟨b, off + i, none⟩) hlt]; exact hc⟩
def cF (k n : Int) (zs : List Int) : Int := if aW k n zs.length = 0 then (if k = 1 then n else zs.getD n.toNat 0) else 0
theorem chk_two {k n : Int} {l : Int} (h : aW k n l = 0) (hk : ¬ k = 1) : k = 2 ∧ 0 ≤ n ∧ n < l := by
 unfold aW at h
 by_cases c1 : l < 0 ∨ 4 < l
 ·rw [if_pos c1] at h; omega
 ·rw [if_neg c1, if_neg hk] at h
  by_cases c2 : k = 2
  ·rw [if_neg (by omega)] at h
   by_cases c3 : n < 0 ∨ l ≤ n
   ·rw [if_pos c3] at h; omega
   ·omega
  ·rw [if_pos c2] at h; omega
theorem value_any (k n : Int) (zs : List Int) (a : Option Addr) (cap : Nat) (w : World) (hl : zs.length ≤ maxLen) (hz : IsInts w a zs) :
  Calls Tryz.prog 170 #[.agg #[.int .i64 k, .int .i64 n], .slice a zs.length cap] w fun e' w' => e' = .returned (.tuple #[.int .i64 (cF k n zs), .int .i64 (aW k n zs.length)]) ∧ w' = (w.alloc (.cells #[.int .i64 k, .int .i64 n] 152)).alloc (.cells #[.int .i64 k, .int .i64 n] 152) := by
 have hw : (Lit.int .i64 (zs.length : Int)).wf = true := WalkArith.wf_i64 (by unfold maxLen at hl; omega)
 by_cases h0 : aW k n zs.length = 0
 ·have hb : (aW k n zs.length != 0) = false := by simp [h0]
  by_cases hk : k = 1
  ·subst hk
   have hv : cF 1 n zs = n := by unfold cF; rw [if_pos h0, if_pos rfl]
   rw [hv]
   have H0 : Hid (aW 1 n zs.length = 0) := h0
   clear hv hz h0
   go_enter Tryz.func170, Tryz.ntmps170
   go_wp2_with fail
   refine (dD _ _ _ _ hw).mono ?_
   rintro e w1 ⟨rfl, rfl⟩
   go_wp2
   go_ret2
   exact ⟨by rw [H0.out]; rfl, rfl⟩
  ·obtain ⟨rfl, hn0, hn1⟩ := chk_two h0 hk
   obtain ⟨m, rfl⟩ := Int.eq_ofNat_of_zero_le hn0
   have hv : cF 2 (m : Int) zs = zs.getD m 0 := by unfold cF; rw [if_pos h0, if_neg hk, Int.toNat_natCast]
   rw [hv]
   obtain ⟨b, off, rfl, hlt, hc⟩ := hz m (by omega)
   have hc2 : ∀ o1 o2, ((w.alloc o1).alloc o2).cell? ⟨b, off + m, none⟩ = some (.int .i64 (zs.getD m 0)) := by
    intro o1 o2
    rw [World.cell?_alloc_lt _ _ _ (by simp; omega), World.cell?_alloc_lt _ _ _ (by simpa using hlt)]; exact hc
   generalize zs.getD m 0 = z at *
   have H0 : Hid (aW 2 (m : Int) zs.length = 0) := h0
   clear hv hz h0 hc
   go_enter Tryz.func170, Tryz.ntmps170
   go_wp2_with fail
   refine (dD _ _ _ _ hw).mono ?_
   rintro e w1 ⟨rfl, rfl⟩
   go_wp2
   go_ret2
   exact ⟨by rw [H0.out]; rfl, rfl⟩
 ·have hb : (aW k n zs.length != 0) = true := by simpa using h0
  have hv : cF k n zs = 0 := by unfold cF; rw [if_neg h0]
  rw [hv]
  clear hv hz h0
  go_enter Tryz.func170, Tryz.ntmps170
  go_wp2_with fail
  refine (dD _ _ _ _ hw).mono ?_
  rintro e w1 ⟨rfl, rfl⟩
  go_wp2
  go_ret2
  exact ⟨rfl, rfl⟩
theorem cA (k n : Int) (zs : List Int) (a : Option Addr) (cap : Nat) (w : World) (hz : IsInts w a zs) (h0 : aW k n zs.length = 0) :
  Calls Tryz.prog 123 #[.agg #[.int .i64 k, .int .i64 n], .slice a zs.length cap] w fun e' w' => e' = .returned (.int .i64 (cF k n zs)) ∧ w' = w.alloc (.cells #[.int .i64 k, .int .i64 n] 152) := by
 by_cases hk : k = 1
 ·subst hk
  have hv : cF 1 n zs = n := by unfold cF; rw [if_pos h0, if_pos rfl]
  rw [hv]
  clear hv hz h0
  go_enter Tryz.func123, Tryz.ntmps123
  go_wp2
  go_ret
  exact ⟨rfl, rfl⟩
 ·obtain ⟨rfl, hn0, hn1⟩ := chk_two h0 hk
  obtain ⟨m, rfl⟩ := Int.eq_ofNat_of_zero_le hn0
  have hv : cF 2 (m : Int) zs = zs.getD m 0 := by unfold cF; rw [if_pos h0, if_neg hk, Int.toNat_natCast]
  rw [hv]
  obtain ⟨b, off, rfl, hlt, hc⟩ := hz m (by omega)
  have hc2 : ∀ o1, (w.alloc o1).cell? ⟨b, off + m, none⟩ = some (.int .i64 (zs.getD m 0)) := by
   intro o1
   rw [World.cell?_alloc_lt _ _ _ (by simpa using hlt)]; exact hc
  generalize zs.getD m 0 = z at *
  clear hv hz h0 hc
  go_enter Tryz.func123, Tryz.ntmps123
  go_wp2
  go_ret
  exact ⟨rfl, rfl⟩
theorem gF (n : Int) (w : World) : Calls Tryz.prog 136 #[.int .i64 n] w fun e' w' => e' = .returned (.agg #[.int .i64 2, .int .i64 n]) ∧ w' = w.alloc (.cells #[.int .i64 2, .int .i64 n] 152) := by
 go_enter Tryz.func136, Tryz.ntmps136
 go_wp2
 exact bodyPost_ret (v := .agg #[.int .i64 2, .int .i64 n]) (by simp [results, Tryz.results136, go_sem]) rfl ⟨rfl, rfl⟩
theorem dO (n : Int) (w : World) : Calls Tryz.prog 135 #[.int .i64 n] w fun e' w' => e' = .returned (.agg #[.int .i64 1, .int .i64 n]) ∧ w' = w.alloc (.cells #[.int .i64 1, .int .i64 n] 152) := by
 go_enter Tryz.func135, Tryz.ntmps135
 go_wp2
 exact bodyPost_ret (v := .agg #[.int .i64 1, .int .i64 n]) (by simp [results, Tryz.results135, go_sem]) rfl ⟨rfl, rfl⟩
theorem isInts_two (w : World) (s : Nat) (x y : Int) (hs : s = w.heap.size) : IsInts (w.alloc (.cells #[.int .i64 x, .int .i64 y] 3)) (some ⟨s, 0, none⟩) [x, y] := by
 subst hs
 intro i hi
 refine ⟨w.heap.size, 0, rfl, by simp, ?_⟩
 match i, hi with
 | 0, _ => simp
 | 1, _ => simp
theorem aC {a b c : World} (h : Below a.heap.size a b) (k : Below b.heap.size b c) : Below a.heap.size a c := h.trans (k.mono h.size)
theorem aB {a w : World} (h : Below a.heap.size a w) (o : Obj) : Below a.heap.size a (w.alloc o) := h.alloc h.size o
theorem aD {a w : World} (h : Below a.heap.size a w) : Below a.heap.size a w.drew := h.drew
theorem aG {a w : World} (h : Below a.heap.size a w) {p : Addr} (hp : a.heap.size ≤ p.block) (u : Value) : Below a.heap.size a (w.setCell p u) := h.setCell hp u
end Go.Proofs.YtebjkmknhpgemaaGreat
namespace Go.Proofs.YtebjkmknhpgemaaGreat
open Go.ChangeShapes Go.WideShapes Go.ChangeAt Go.RowKit
theorem ownK : ownKnob Tryz.prog.godebug = none := by kernel_rfl
theorem oM : laidOutB Tryz.prog = true := by kernel_rfl
end Go.Proofs.YtebjkmknhpgemaaGreat
namespace Go.Proofs.YtebjkmknhpgemaaGreat
open Go.RowKit
theorem fC {α : Type} (l : List α) (k : Nat) (d : α) (h : k < l.length) : l.drop k = l.getD k d :: l.drop (k + 1) := by
 rw [List.drop_eq_getElem_cons h]
 simp [List.getD, h]
def bH : List Int → Int
 | [] => 0
 | z :: t => if z < 0 ∨ 8 ≤ z then 3 else bH t
def bL : List Int → Int
 | [] => 0
 | [_] => 0
 | x :: y :: t => if y ≤ x then 1 else bL (y :: t)
def aF : List Int → Int
 | [] => 0
 | e :: l => if e = 0 then aF l else e
theorem jB (l : List Int) (k : Nat) (h : k < l.length) : bH (l.drop k) = if l.getD k 0 < 0 ∨ 8 ≤ l.getD k 0 then 3 else bH (l.drop (k + 1)) := by
 rw [fC l k 0 h]; rfl
theorem kF (l : List Int) (k : Nat) (h : k + 1 < l.length) : bL (l.drop k) = if l.getD (k + 1) 0 ≤ l.getD k 0 then 1 else bL (l.drop (k + 1)) := by
 rw [fC l k 0 (by omega), fC l (k + 1) 0 h]; rfl
theorem lZ (l : List Int) (k : Nat) (h : l.length ≤ k + 1) : bL (l.drop k) = 0 := by
 have hl : (l.drop k).length ≤ 1 := by rw [List.length_drop]; omega
 match hd : l.drop k, hl with
 | [], _ => rfl
 | [_], _ => rfl
def jG (v : Int) : List Int → Int → Int
 | [], _ => -1
 | z :: t, i => if v = z then i else jG v t (i + 1)
theorem idxE_step (v : Int) (l : List Int) (k : Nat) (h : k < l.length) : jG v (l.drop k) k = if v = l.getD k 0 then (k : Int) else jG v (l.drop (k + 1)) (k + 1 : Nat) := by
 rw [fC l k 0 h]; rfl
theorem idxE_mem (v : Int) : ∀ (l : List Int) (i : Int), 0 ≤ i → decide (0 ≤ jG v l i) = decide (v ∈ l)
 | [], i, _ => by simp [jG]
 | z :: t, i, h => by
  unfold jG
  by_cases hv : v = z
  ·rw [if_pos hv]; simp [hv, h]
  ·rw [if_neg hv, idxE_mem v t (i + 1) (by omega)]; simp [hv]
theorem mem_step (v : Int) (l : List Int) (k : Nat) (h : k < l.length) : (v ∈ l.drop k) ↔ (l.getD k 0 = v ∨ v ∈ l.drop (k + 1)) := by
 rw [fC l k 0 h, List.mem_cons]
 exact or_congr_left eq_comm
theorem same_step (l m : List Int) (k : Nat) (h : k < l.length) (h' : k < m.length) : (l.drop k = m.drop k) ↔ (l.getD k 0 = m.getD k 0 ∧ l.drop (k + 1) = m.drop (k + 1)) := by
 rw [fC l k 0 h, fC m k 0 h', List.cons.injEq]
theorem eY (zs : List Int) (a : Option Addr) (cap : Nat) (w : World) (hl : zs.length ≤ maxLen) (hz : IsInts w a zs) :
  Calls Tryz.prog 154 #[.slice a zs.length cap] w fun e w' => e = .returned (.int .i64 (bH zs)) ∧ w' = w := by
 unfold maxLen at hl
 go_enter Tryz.func154, Tryz.ntmps154
 go_wp2
 go_loop [4, 7] (fun _ i => ∃ k : Nat, k ≤ zs.length ∧ i = .int .i64 k ∧ Hid (bH zs = bH (zs.drop k))) (fun _ i => zs.length - (intOf i).toNat)
 case atStart => exact ⟨0, Nat.zero_le _, rfl, rfl⟩
 case round =>
  obtain ⟨k, hk, rfl, hno⟩ := hrel
  by_cases hlt : k < zs.length
  ·obtain ⟨b, off, rfl, hb, hc⟩ := hz k hlt
   have hs : Hid (bH zs = if zs.getD k 0 < 0 ∨ 8 ≤ zs.getD k 0 then 3 else bH (zs.drop (k + 1))) := hno.out.trans (jB zs k hlt)
   generalize zs.getD k 0 = z at *
   clear hno hz
   by_cases h1 : z < 0
   ·have H' : Hid (bH zs = 3) := hs.out.trans (if_pos (by omega))
    clear hs
    go_wp2
    go_ret
    exact ⟨by rw [H'.out]; rfl, rfl⟩
   ·by_cases h2 : 8 ≤ z
    ·have H' : Hid (bH zs = 3) := hs.out.trans (if_pos (by omega))
     clear hs
     go_wp2
     go_ret
     exact ⟨by rw [H'.out]; rfl, rfl⟩
    ·have H' : Hid (bH zs = bH (zs.drop (k + 1))) := hs.out.trans (if_neg (by omega))
     clear hs
     go_wp2
     go_round
     case rel => exact ⟨k + 1, by omega, by go_num, H'⟩
     case measure => simp [intOf]; omega
  ·have H' : Hid (bH zs = 0) := by
    have h0 := hno.out
    rw [List.drop_of_length_le (by omega)] at h0
    exact h0
   clear hno hz
   go_wp2
   go_ret
   exact ⟨by rw [H'.out]; rfl, rfl⟩
theorem fM (zs : List Int) (a : Option Addr) (cap : Nat) (w : World) (hl : zs.length ≤ maxLen) (hz : IsInts w a zs) :
  Calls Tryz.prog 155 #[.slice a zs.length cap] w fun e w' => e = .returned (.int .i64 (bL zs)) ∧ Below w.heap.size w w' := by
 unfold maxLen at hl
 go_enter Tryz.func155, Tryz.ntmps155
 go_wp2
 go_loopw [3] (fun i wr => ∃ k : Nat, k ≤ zs.length ∧ i = .int .i64 (k + 1 : Nat) ∧ Hid (bL zs = bL (zs.drop k)) ∧ Below w.heap.size w wr) (fun i _ => zs.length + 1 - (intOf i).toNat)
 case atStart => exact ⟨0, Nat.zero_le _, rfl, rfl, Below.refl _ _⟩
 case round =>
  obtain ⟨k, hk, rfl, hno, hnx⟩ := hrel
  by_cases hlt : k + 1 < zs.length
  ·obtain ⟨b, off, rfl, hb, hc⟩ := hz (k + 1) hlt
   obtain ⟨b', off', hbo, hb', hc'⟩ := hz k (by omega)
   simp only [Option.some.injEq, Addr.mk.injEq, and_true] at hbo
   obtain ⟨rfl, rfl⟩ := hbo
   have hc := (hnx.cell (p := ⟨b, off + (k + 1), none⟩) hb).trans hc
   have hc' := (hnx.cell (p := ⟨b, off + k, none⟩) hb).trans hc'
   have HX : Hid (Below w.heap.size w wr) := hnx
   clear hnx
   have hs : Hid (bL zs = if zs.getD (k + 1) 0 ≤ zs.getD k 0 then 1 else bL (zs.drop (k + 1))) := hno.out.trans (kF zs k hlt)
   generalize zs.getD (k + 1) 0 = y at *
   generalize zs.getD k 0 = x at *
   clear hno hz
   have i1 : (0 : Int) ≤ (k : Int) + 1 := by omega
   have i2 : ((k : Int) + 1) < (zs.length : Int) := by omega
   by_cases hyx : y ≤ x
   ·have H' : Hid (bL zs = 1) := hs.out.trans (if_pos hyx)
    clear hs
    go_wp2_with fail
    go_quiet (fail)
    go_wp2
    go_ret
    exact ⟨by rw [H'.out]; rfl, below_drewN HX.out _⟩
   ·have H' : Hid (bL zs = bL (zs.drop (k + 1))) := hs.out.trans (if_neg hyx)
    clear hs
    go_wp2_with fail
    go_quiet (fail)
    go_wp2
    go_roundw
    case rel => exact ⟨k + 1, by omega, by go_num, H', below_drewN HX.out _⟩
    case measure => simp [intOf]; omega
  ·have H' : Hid (bL zs = 0) := hno.out.trans (lZ zs k (by omega))
   clear hno hz
   go_wp2
   go_ret
   exact ⟨by rw [H'.out]; rfl, hnx⟩
theorem index_any (v : Int) (zs : List Int) (a : Option Addr) (cap : Nat) (w : World) (hl : zs.length ≤ maxLen) (hz : IsInts w a zs) :
  Calls Tryz.prog 151 #[.slice a zs.length cap, .int .i64 v] w fun e w' => e = .returned (.int .i64 (jG v zs 0)) ∧ w' = w := by
 unfold maxLen at hl
 go_enter Tryz.func151, Tryz.ntmps151
 go_wp2
 go_loop [5, 8] (fun _ i => ∃ k : Nat, k ≤ zs.length ∧ i = .int .i64 k ∧ Hid (jG v zs 0 = jG v (zs.drop k) k)) (fun _ i => zs.length - (intOf i).toNat)
 case atStart => exact ⟨0, Nat.zero_le _, rfl, rfl⟩
 case round =>
  obtain ⟨k, hk, rfl, hno⟩ := hrel
  by_cases hlt : k < zs.length
  ·obtain ⟨b, off, rfl, hb, hc⟩ := hz k hlt
   have hs : Hid (jG v zs 0 = if v = zs.getD k 0 then (k : Int) else jG v (zs.drop (k + 1)) (k + 1 : Nat)) := hno.out.trans (idxE_step v zs k hlt)
   generalize zs.getD k 0 = z at *
   clear hno hz
   by_cases h1 : v = z
   ·have H' : Hid (jG v zs 0 = (k : Int)) := hs.out.trans (if_pos h1)
    have h2 : (v == z) = true := by simpa using h1
    clear hs h1
    go_wp2
    go_ret
    exact ⟨by rw [H'.out]; rfl, rfl⟩
   ·have H' : Hid (jG v zs 0 = jG v (zs.drop (k + 1)) (k + 1 : Nat)) := hs.out.trans (if_neg h1)
    have h2 : (v == z) = false := by simpa using h1
    clear hs h1
    go_wp2
    go_round
    case rel => exact ⟨k + 1, by omega, by go_num, H'⟩
    case measure => simp [intOf]; omega
  ·have H' : Hid (jG v zs 0 = -1) := by
    have h0 := hno.out
    rw [List.drop_of_length_le (by omega)] at h0
    exact h0
   clear hno hz
   go_wp2
   go_ret
   exact ⟨by rw [H'.out]; rfl, rfl⟩
theorem cE (v : Int) (zs : List Int) (a : Option Addr) (cap : Nat) (w : World) (hl : zs.length ≤ maxLen) (hz : IsInts w a zs) :
  Calls Tryz.prog 131 #[.slice a zs.length cap, .int .i64 v] w fun e w' => e = .returned (.bool (decide (v ∈ zs))) ∧ w' = w := by
 have H : Hid (decide (0 ≤ jG v zs 0) = decide (v ∈ zs)) := idxE_mem v zs 0 (Int.le_refl _)
 go_enter Tryz.func131, Tryz.ntmps131
 go_wp2_with fail
 refine (index_any v zs a cap _ hl hz).mono ?_
 rintro e w' ⟨rfl, rfl⟩
 clear hz
 generalize jG v zs 0 = r at *
 go_wp2
 go_ret
 exact ⟨by rw [← H.out]; rfl, rfl⟩
theorem kW (zs ys : List Int) (a a' : Option Addr) (cap cap' : Nat) (w : World) (hl : zs.length ≤ maxLen) (hz : IsInts w a zs) (hy : IsInts w a' ys) :
  Calls Tryz.prog 37 #[.slice a zs.length cap, .slice a' ys.length cap'] w fun e w' => e = .returned (.bool (decide (zs = ys))) ∧ Below w.heap.size w w' := by
 unfold maxLen at hl
 by_cases hlen : zs.length = ys.length
 ·have hbl : ((zs.length : Int) != (ys.length : Int)) = false := by simp [hlen]
  have HL : Hid (zs.length = ys.length) := hlen
  clear hlen
  go_enter Tryz.func37, Tryz.ntmps37
  go_wp2
  go_loopw [5] (fun i wr => ∃ k : Nat, k ≤ zs.length ∧ i = .int .i64 k ∧ Hid (zs = ys ↔ zs.drop k = ys.drop k) ∧ Below w.heap.size w wr) (fun i _ => zs.length - (intOf i).toNat)
  case atStart => exact ⟨0, Nat.zero_le _, rfl, Iff.rfl, Below.refl _ _⟩
  case round =>
   obtain ⟨k, hk, rfl, hno, hnx⟩ := hrel
   by_cases hlt : k < zs.length
   ·have hlt' : k < ys.length := by have := HL.out; omega
    obtain ⟨b, off, rfl, hb, hc⟩ := hz k hlt
    obtain ⟨b', off', rfl, hb', hc'⟩ := hy k hlt'
    have hs : Hid (zs = ys ↔ (zs.getD k 0 = ys.getD k 0 ∧ zs.drop (k + 1) = ys.drop (k + 1))) := hno.out.trans (same_step zs ys k hlt hlt')
    have hc := (hnx.cell (p := ⟨b, off + k, none⟩) hb).trans hc
    have hc' := (hnx.cell (p := ⟨b', off' + k, none⟩) hb').trans hc'
    have HX : Hid (Below w.heap.size w wr) := hnx
    generalize zs.getD k 0 = x at *
    generalize ys.getD k 0 = y at *
    clear hno hz hy hnx
    have i1 : (0 : Int) ≤ (k : Int) := by omega
    have i2 : (k : Int) < (zs.length : Int) := by omega
    have i3 : (k : Int) < (ys.length : Int) := by omega
    by_cases h1 : x = y
    ·have H' : Hid (zs = ys ↔ zs.drop (k + 1) = ys.drop (k + 1)) := hs.out.trans (by simp [h1])
     have h2 : (x != y) = false := by simpa using h1
     clear hs h1
     go_wp2_with fail
     go_quiet (fail)
     go_wp2
     go_roundw
     case rel => exact ⟨k + 1, by omega, by go_num, H', below_drewN HX.out _⟩
     case measure => simp [intOf]; omega
    ·have H' : Hid (¬ zs = ys) := by
      intro e
      exact h1 (hs.out.1 e).1
     have h2 : (x != y) = true := by simpa using h1
     clear hs h1
     go_wp2_with fail
     go_quiet (fail)
     go_wp2
     go_ret
     exact ⟨by rw [decide_eq_false H'.out]; rfl, below_drewN HX.out _⟩
   ·have H' : Hid (zs = ys) := by
     refine hno.out.2 ?_
     have := HL.out
     rw [List.drop_of_length_le (by omega), List.drop_of_length_le (by omega)]
    clear hno hz hy
    go_wp2
    go_ret
    exact ⟨by rw [decide_eq_true H'.out]; rfl, hnx⟩
 ·have H' : Hid (¬ zs = ys) := fun e => hlen (by rw [e])
  have hbl : ((zs.length : Int) != (ys.length : Int)) = true := by simp; omega
  clear hlen hz hy
  go_enter Tryz.func37, Tryz.ntmps37
  go_wp2
  go_ret
  exact ⟨by rw [decide_eq_false H'.out]; rfl, Below.refl _ _⟩
end Go.Proofs.YtebjkmknhpgemaaGreat
namespace Go.Proofs.YtebjkmknhpgemaaGreat
open Go.RowKit
structure Gd where
 k : Int
 ak : Int
 an : Int
 bk : Int
 bn : Int
structure St where
 key : Int
 op : Int
 ak : Int
 an : Int
 bk : Int
 bn : Int
def g0 : Gd := ⟨0, 0, 0, 0, 0⟩
def s0 : St := ⟨0, 0, 0, 0, 0, 0⟩
def aI (ss : List St) : List Int := ss.map St.key
def IsGs (w : World) (a : Option Addr) (gs : List Gd) : Prop :=
 ∀ i, i < gs.length → ∃ b off, a = some ⟨b, off, none⟩ ∧ b < w.heap.size ∧ w.cell? ⟨b, off + i * 5, none⟩ = some (.int .i64 (gs.getD i g0).k) ∧ w.cell? ⟨b, off + i * 5 + 1, none⟩ = some (.int .i64 (gs.getD i g0).ak) ∧
  w.cell? ⟨b, off + i * 5 + 2, none⟩ = some (.int .i64 (gs.getD i g0).an) ∧ w.cell? ⟨b, off + i * 5 + 3, none⟩ = some (.int .i64 (gs.getD i g0).bk) ∧ w.cell? ⟨b, off + i * 5 + 4, none⟩ = some (.int .i64 (gs.getD i g0).bn)
def IsSs (w : World) (a : Option Addr) (ss : List St) : Prop :=
 ∀ i, i < ss.length → ∃ b off, a = some ⟨b, off, none⟩ ∧ b < w.heap.size ∧ w.cell? ⟨b, off + i * 6, none⟩ = some (.int .i64 (ss.getD i s0).key) ∧ w.cell? ⟨b, off + i * 6 + 1, none⟩ = some (.int .i64 (ss.getD i s0).op) ∧
  w.cell? ⟨b, off + i * 6 + 2, none⟩ = some (.int .i64 (ss.getD i s0).ak) ∧ w.cell? ⟨b, off + i * 6 + 3, none⟩ = some (.int .i64 (ss.getD i s0).an) ∧ w.cell? ⟨b, off + i * 6 + 4, none⟩ = some (.int .i64 (ss.getD i s0).bk) ∧ w.cell? ⟨b, off + i * 6 + 5, none⟩ = some (.int .i64 (ss.getD i s0).bn)
theorem IsGs.below {w w' : World} {a : Option Addr} {gs : List Gd} (h : IsGs w a gs) (hb : Below w.heap.size w w') : IsGs w' a gs := by
 intro i hi
 obtain ⟨b, off, ha, hlt, h0, h1, h2, h3, h4⟩ := h i hi
 refine ⟨b, off, ha, Nat.lt_of_lt_of_le hlt hb.size, ?_, ?_, ?_, ?_, ?_⟩ <;> (rw [hb.cell hlt]; assumption)
theorem IsSs.below {w w' : World} {a : Option Addr} {ss : List St} (h : IsSs w a ss) (hb : Below w.heap.size w w') : IsSs w' a ss := by
 intro i hi
 obtain ⟨b, off, ha, hlt, h0, h1, h2, h3, h4, h5⟩ := h i hi
 refine ⟨b, off, ha, Nat.lt_of_lt_of_le hlt hb.size, ?_, ?_, ?_, ?_, ?_, ?_⟩ <;> (rw [hb.cell hlt]; assumption)
structure IsTx (w : World) (ra ga sa : Option Addr) (rs : List Int) (gs : List Gd) (ss : List St) : Prop where
 r : IsInts w ra rs
 g : IsGs w ga gs
 s : IsSs w sa ss
 lr : rs.length ≤ maxLen
 lg : gs.length ≤ maxLen
 ls : ss.length ≤ maxLen
theorem IsTx.below {w w' : World} {ra ga sa : Option Addr} {rs : List Int} {gs : List Gd} {ss : List St} (h : IsTx w ra ga sa rs gs ss) (hb : Below w.heap.size w w') : IsTx w' ra ga sa rs gs ss :=
 ⟨h.r.below hb, h.g.below hb, h.s.below hb, h.lr, h.lg, h.ls⟩
theorem cH (ss : List St) : (aI ss).length = ss.length := by simp [aI]
theorem iI (ss : List St) (k : Nat) (h : k < ss.length) : (aI ss).getD k 0 = (ss.getD k s0).key := by
 simp [aI, List.getD, h]
def bQ (r g s : Nat) : Int := if 4 < r ∨ 2 < g ∨ 3 < s ∨ s = 0 then 2 else 0
variable (ra ga sa : Option Addr) (rc gc sc : Nat) (rs : List Int) (gs : List Gd) (ss : List St)
theorem fJ (key : Int) (w : World) (ht : IsTx w ra ga sa rs gs ss) :
  Calls Tryz.prog 100 #[.agg #[.slice ra rs.length rc, .slice ga gs.length gc, .slice sa ss.length sc], .int .i64 key] w fun e w' => e = .returned (.bool (decide (key ∈ rs))) ∧ w' = w.alloc (.cells #[.slice ra rs.length rc, .slice ga gs.length gc, .slice sa ss.length sc] 79) := by
 obtain ⟨hz, _, _, hl, _, _⟩ := ht
 unfold maxLen at hl
 go_enter Tryz.func100, Tryz.ntmps100
 go_wp2
 go_loop [5] (fun i => ∃ k : Nat, k ≤ rs.length ∧ i = .int .i64 k ∧ Hid (key ∈ rs ↔ key ∈ rs.drop k)) (fun i => rs.length - (intOf i).toNat)
 case atStart => exact ⟨0, Nat.zero_le _, rfl, Iff.rfl⟩
 case round =>
  obtain ⟨k, hk, rfl, hno⟩ := hrel
  by_cases hlt : k < rs.length
  ·obtain ⟨b, off, rfl, hb, hc⟩ := hz k hlt
   have hs : Hid (key ∈ rs ↔ (rs.getD k 0 = key ∨ key ∈ rs.drop (k + 1))) := hno.out.trans (mem_step key rs k hlt)
   have hc := fun o => (World.cell?_alloc_lt (w := w) (o := o) (a := ⟨b, off + k, none⟩) hb).trans hc
   generalize rs.getD k 0 = z at *
   clear hno hz
   by_cases h1 : z = key
   ·have H' : Hid (key ∈ rs) := hs.out.2 (.inl h1)
    have h2 : (z == key) = true := by simpa using h1
    clear hs h1
    go_wp2
    go_ret
    exact ⟨by rw [decide_eq_true H'.out]; rfl, rfl⟩
   ·have H' : Hid (key ∈ rs ↔ key ∈ rs.drop (k + 1)) := hs.out.trans (by simp [h1])
    have h2 : (z == key) = false := by simpa using h1
    clear hs h1
    go_wp2
    go_round
    case rel => exact ⟨k + 1, by omega, by go_num, H'⟩
    case measure => simp [intOf]; omega
  ·have H' : Hid (¬ key ∈ rs) := by
    intro h
    have h0 := hno.out.1 h
    rw [List.drop_of_length_le (by omega)] at h0
    simp at h0
   clear hno hz
   go_wp2
   go_ret
   exact ⟨by rw [decide_eq_false H'.out]; rfl, rfl⟩
theorem cL (key : Int) (w : World) (ht : IsTx w ra ga sa rs gs ss) :
  Calls Tryz.prog 101 #[.agg #[.slice ra rs.length rc, .slice ga gs.length gc, .slice sa ss.length sc], .int .i64 key] w fun e w' => e = .returned (.bool (decide (key ∈ aI ss))) ∧ w' = w.alloc (.cells #[.slice ra rs.length rc, .slice ga gs.length gc, .slice sa ss.length sc] 79) := by
 obtain ⟨_, _, hz, _, _, hl⟩ := ht
 unfold maxLen at hl
 have hkl := cH ss
 have HL : Hid ((aI ss).length = ss.length) := hkl
 clear hkl
 go_enter Tryz.func101, Tryz.ntmps101
 go_wp2
 go_loop [5] (fun i => ∃ k : Nat, k ≤ ss.length ∧ i = .int .i64 k ∧ Hid (key ∈ aI ss ↔ key ∈ (aI ss).drop k)) (fun i => ss.length - (intOf i).toNat)
 case atStart => exact ⟨0, Nat.zero_le _, rfl, Iff.rfl⟩
 case round =>
  obtain ⟨k, hk, rfl, hno⟩ := hrel
  by_cases hlt : k < ss.length
  ·obtain ⟨b, off, rfl, hb, hc, _, _, _, _, _⟩ := hz k hlt
   have hs : Hid (key ∈ aI ss ↔ ((ss.getD k s0).key = key ∨ key ∈ (aI ss).drop (k + 1))) := by
    have := hno.out.trans (mem_step key (aI ss) k (by rw [HL.out]; exact hlt))
    rw [iI ss k hlt] at this
    exact this
   have hc := fun o => (World.cell?_alloc_lt (w := w) (o := o) (a := ⟨b, off + k * 6, none⟩) hb).trans hc
   generalize (ss.getD k s0).key = z at *
   clear hno hz
   by_cases h1 : z = key
   ·have H' : Hid (key ∈ aI ss) := hs.out.2 (.inl h1)
    have h2 : (z == key) = true := by simpa using h1
    clear hs h1
    go_wp2
    go_ret
    exact ⟨by rw [decide_eq_true H'.out]; rfl, rfl⟩
   ·have H' : Hid (key ∈ aI ss ↔ key ∈ (aI ss).drop (k + 1)) := hs.out.trans (by simp [h1])
    have h2 : (z == key) = false := by simpa using h1
    clear hs h1
    go_wp2
    go_round
    case rel => exact ⟨k + 1, by omega, by go_num, H'⟩
    case measure => simp [intOf]; omega
  ·have H' : Hid (¬ key ∈ aI ss) := by
    intro h
    have h0 := hno.out.1 h
    rw [List.drop_of_length_le (by rw [HL.out]; omega)] at h0
    simp at h0
   clear hno hz
   go_wp2
   go_ret
   exact ⟨by rw [decide_eq_false H'.out]; rfl, rfl⟩
theorem iD (w : World) (ht : IsTx w ra ga sa rs gs ss) :
  Calls Tryz.prog 153 #[.agg #[.slice ra rs.length rc, .slice ga gs.length gc, .slice sa ss.length sc]] w fun e w' => e = .returned (.int .i64 (bQ rs.length gs.length ss.length)) ∧ w' = w.alloc (.cells #[.slice ra rs.length rc, .slice ga gs.length gc, .slice sa ss.length sc] 79) := by
 obtain ⟨_, _, _, hlr, hlg, hls⟩ := ht
 unfold maxLen at hlr hlg hls
 generalize rs.length = r at *
 generalize gs.length = g at *
 generalize ss.length = s at *
 by_cases h1 : 4 < r
 ·have H : Hid (bQ r g s = 2) := if_pos (by omega)
  have b1 : (4 : Int) < (r : Int) := by omega
  go_enter Tryz.func153, Tryz.ntmps153
  go_wp2
  go_ret
  exact ⟨by rw [H.out]; rfl, rfl⟩
 ·by_cases h2 : 2 < g
  ·have H : Hid (bQ r g s = 2) := if_pos (by omega)
   have b1 : ¬ (4 : Int) < (r : Int) := by omega
   have b2 : (2 : Int) < (g : Int) := by omega
   go_enter Tryz.func153, Tryz.ntmps153
   go_wp2
   go_ret
   exact ⟨by rw [H.out]; rfl, rfl⟩
  ·by_cases h3 : 3 < s
   ·have H : Hid (bQ r g s = 2) := if_pos (by omega)
    have b1 : ¬ (4 : Int) < (r : Int) := by omega
    have b2 : ¬ (2 : Int) < (g : Int) := by omega
    have b3 : (3 : Int) < (s : Int) := by omega
    go_enter Tryz.func153, Tryz.ntmps153
    go_wp2
    go_ret
    exact ⟨by rw [H.out]; rfl, rfl⟩
   ·by_cases h4 : s = 0
    ·have H : Hid (bQ r g s = 2) := if_pos (by omega)
     subst h4
     have b1 : ¬ (4 : Int) < (r : Int) := by omega
     have b2 : ¬ (2 : Int) < (g : Int) := by omega
     go_enter Tryz.func153, Tryz.ntmps153
     go_wp2
     go_ret
     exact ⟨by rw [H.out]; rfl, rfl⟩
    ·have H : Hid (bQ r g s = 0) := if_neg (by omega)
     have b1 : ¬ (4 : Int) < (r : Int) := by omega
     have b2 : ¬ (2 : Int) < (g : Int) := by omega
     have b3 : ¬ (3 : Int) < (s : Int) := by omega
     have b4 : ((s : Int) == 0) = false := by simp; omega
     go_enter Tryz.func153, Tryz.ntmps153
     go_wp2
     go_ret
     exact ⟨by rw [H.out]; rfl, rfl⟩
end Go.Proofs.YtebjkmknhpgemaaGreat
