/-
  
  Conditions: those that each theorem states.
-/
import Derived.Test.YtebjkmknhpgemaaGreatSStoreG
set_option maxRecDepth 100000
namespace Go.Proofs.YtebjkmknhpgemaaGreat
open Go.RowKit
theorem ext4r {W w' : World} {p1 p2 p3 p4 : Addr} {v1 v2 v3 v4 : Value} (hb : Below W.heap.size W w') (q1 : W.cell? p1 = some v1) (q2 : W.cell? p2 = some v2) (q3 : W.cell? p3 = some v3) (q4 : W.cell? p4 = some v4) :
  w'.cell? p1 = some v1 ∧ w'.cell? p2 = some v2 ∧ w'.cell? p3 = some v3 ∧ w'.cell? p4 = some v4 ∧ Hid (Below W.heap.size W w') := ⟨ext_cell hb q1, ext_cell hb q2, ext_cell hb q3, ext_cell hb q4, hb⟩
set_option maxHeartbeats 2000000 in
theorem sameResults_eq (R : List (Bool × List Int)) (a a' : Option Addr) (c c' : Nat) (w : World) (hR : R.length ≤ 100) (hI : ∀ r ∈ R, r.2.length ≤ 100) (h1 : IsRes w a R) (h2 : IsRes w a' R) :
  Calls Tryz.prog 35 #[.slice a R.length c, .slice a' R.length c'] w fun e w' => e = .returned (.bool true) ∧ Below w.heap.size w w' := by
 go_enter Tryz.func35, Tryz.ntmps35
 go_wp2
 go_loopw [5] (fun i wr => ∃ k : Nat, k ≤ R.length ∧ i = .int .i64 k ∧ Below w.heap.size w wr) (fun i _ => R.length - (intOf i).toNat)
 case atStart => exact ⟨0, Nat.zero_le _, rfl, Below.refl _ _⟩
 case round =>
  obtain ⟨k, hk, rfl, hnx⟩ := hrel
  by_cases hlt : k < R.length
  ·obtain ⟨b, off, va, vc, rfl, hb, c0, c1, hz⟩ := h1 k hlt
   obtain ⟨b', off', va', vc', rfl, hb', e0, e1, hz'⟩ := h2 k hlt
   have hm : R.getD k (false, []) ∈ R := by simp [List.getD, hlt]
   have hl := hI _ hm
   have d0 := ext_cell hnx c0
   have d1 := ext_cell hnx c1
   have f0 := ext_cell hnx e0
   have f1 := ext_cell hnx e1
   have HZ : Hid (IsInts wr va (R.getD k (false, [])).2) := hz.below hnx
   have HZ' : Hid (IsInts wr va' (R.getD k (false, [])).2) := hz'.below hnx
   generalize R.getD k (false, []) = r at *
   obtain ⟨D, Z⟩ := r
   simp only at d0 d1 f0 f1 hl
   have hzl : Hid (Z.length ≤ maxLen) := by show _ ≤ _; unfold maxLen; omega
   have hnx' : Hid (Below w.heap.size w wr) := hnx
   clear c0 c1 e0 e1 hz hz' hm h1 h2 hI hnx hl
   have i1 : (0 : Int) ≤ (k : Int) := by omega
   have i2 : (k : Int) < (R.length : Int) := by omega
   have hKS : Hid (∀ w', Below wr.heap.size wr w' → w'.cell? ⟨b, off + k * 2, none⟩ = some (.bool D) ∧ w'.cell? ⟨b, off + k * 2 + 1, none⟩ = some (.slice va Z.length vc) ∧ w'.cell? ⟨b', off' + k * 2, none⟩ = some (.bool D) ∧ w'.cell? ⟨b', off' + k * 2 + 1, none⟩ = some (.slice va' Z.length vc') ∧ Hid (Below wr.heap.size wr w')) := fun w' h => ext4r h d0 d1 f0 f1
   go_wp2
   go_region_held3 (fun w' => w'.cell? ⟨b, off + k * 2, none⟩ = some (.bool D) ∧ w'.cell? ⟨b, off + k * 2 + 1, none⟩ = some (.slice va Z.length vc) ∧ w'.cell? ⟨b', off' + k * 2, none⟩ = some (.bool D) ∧ w'.cell? ⟨b', off' + k * 2 + 1, none⟩ = some (.slice va' Z.length vc') ∧ Hid (Below wr.heap.size wr w')) ((refine hKS.out _ ?_; go_split_ands; repeat (first | assumption | exact Below.refl _ _ | exact Hid.out (by assumption) | refine grow_drew ?_ | refine grow_alloc ?_ _ | refine grow_trans ?_ (by assumption))))
    (first
     | (go_at_call 37; refine (sameInts_any Z Z va va' vc vc' _ hzl.out ?_ ?_).mono ?_; (refine HZ.out.below ?_; go_split_ands; exact Hid.out (by assumption)); (refine HZ'.out.below ?_; go_split_ands; exact Hid.out (by assumption)); rintro e w' ⟨rfl, hbx⟩))
   go_split_ands
   have RB : ∃ wx, wx = w' ∧ Below w.heap.size w wx := ⟨_, rfl, grow_trans hnx'.out (Hid.out (by assumption))⟩
   obtain ⟨wx, rfl, RB⟩ := RB
   clear hKS d0 d1 f0 f1 HZ HZ'
   go_wp2
   go_roundw
   case rel => exact ⟨k + 1, by omega, by go_num, RB⟩
   case measure => simp [intOf]; omega
  ·clear h1 h2
   go_wp2
   go_ret
   exact ⟨rfl, hnx⟩
variable (sa : Option Addr) (sc : Nat) (s : List Int) (ra ga ta : Option Addr) (rc gc tc : Nat) (rs : List Int) (gs : List Gd) (ss : List St)
end Go.Proofs.YtebjkmknhpgemaaGreat
namespace Go.Proofs.YtebjkmknhpgemaaGreat
open Go.RowKit
theorem some_of_ints {w : World} {a : Option Addr} {z : Int} {t : List Int} {c : Nat} (h : IsInts w a (z :: t)) : a = none → c = 0 := fun e => by
 obtain ⟨b, off, ha, _⟩ := h 0 (by simp)
 rw [e] at ha
 cases ha
theorem some_of_gs {w : World} {a : Option Addr} {z : Gd} {t : List Gd} {c : Nat} (h : IsGs w a (z :: t)) : a = none → c = 0 := fun e => by
 obtain ⟨b, off, ha, _⟩ := h 0 (by simp)
 rw [e] at ha
 cases ha
theorem some_of_ss {w : World} {a : Option Addr} {z : St} {t : List St} {c : Nat} (h : IsSs w a (z :: t)) : a = none → c = 0 := fun e => by
 obtain ⟨b, off, ha, _⟩ := h 0 (by simp)
 rw [e] at ha
 cases ha
theorem isTxs_three (w : World) (x y z : TxA) (n : Nat) (hn : n = w.heap.size) (hx : IsX w x) (hy : IsX w y) (hz : IsX w z) : IsTxs (w.alloc (.cells #[.slice x.ra x.rs.length x.rc, .slice x.ga x.gs.length x.gc, .slice x.sa x.ss.length x.sc, .slice y.ra y.rs.length y.rc, .slice y.ga y.gs.length y.gc, .slice y.sa y.ss.length y.sc, .slice z.ra z.rs.length z.rc, .slice z.ga z.gs.length z.gc, .slice z.sa z.ss.length z.sc] 79)) (some ⟨n, 0, none⟩) [x, y, z] := by
 subst hn
 intro i hi
 have hi3 : i < 3 := by simpa using hi
 match i, hi3 with
 | 0, _ => exact ⟨w.heap.size, 0, rfl, by simp, by simp, by simp, by simp, hx.below (grow_alloc (Below.refl _ _) _)⟩
 | 1, _ => exact ⟨w.heap.size, 0, rfl, by simp, by simp, by simp, by simp, hy.below (grow_alloc (Below.refl _ _) _)⟩
 | 2, _ => exact ⟨w.heap.size, 0, rfl, by simp, by simp, by simp, by simp, hz.below (grow_alloc (Below.refl _ _) _)⟩
abbrev xPay (ra ga sa : Option Addr) (rc gc sc : Nat) : TxA := ⟨ra, ga, sa, rc, gc, sc, [0, 1], [gPay 3], [s1Pay 3, s2Pay 3]⟩
abbrev xNote (ra sa : Option Addr) (rc sc : Nat) : TxA := ⟨ra, none, sa, rc, 0, sc, [1], [], [sNote]⟩
section
variable (ra ga sa ra' ga' sa' ra2 sa2 : Option Addr) (rc gc sc rc' gc' sc' rc2 sc2 : Nat)
end
end Go.Proofs.YtebjkmknhpgemaaGreat
namespace Go.Proofs.YtebjkmknhpgemaaGreat
open Go.ChangeShapes Go.WideShapes Go.ChangeAt Go.RowKit Go.Deep
section
variable {H : Type} {enc : TypeId × Value → H} {w : World} {base : Nat} {held : Bool}
end
theorem wf_bounds {c : Int} (h : (Lit.int .i64 c).wf = true) : -9223372036854775808 ≤ c ∧ c ≤ 9223372036854775807 := by
 simp only [Lit.wf, Bool.and_eq_true, decide_eq_true_eq] at h
 have e1 : IntKind.i64.min = -9223372036854775808 := by decide
 have e2 : IntKind.i64.max = 9223372036854775807 := by decide
 rw [e1, e2] at h
 exact h
end Go.Proofs.YtebjkmknhpgemaaGreat
