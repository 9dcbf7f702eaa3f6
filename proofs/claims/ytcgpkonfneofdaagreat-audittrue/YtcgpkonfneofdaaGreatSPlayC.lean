/-
  
  Conditions: those that each theorem states.
-/
import Derived.Test.YtcgpkonfneofdaaGreatSEithB
set_option maxRecDepth 100000
namespace Go.Proofs.YtcgpkonfneofdaaGreat
open Go.RowKit
theorem gotSteps_ok (a : Option Addr) (k c : Nat) (w : World) : Calls Tryz.prog 63 #[.slice a k c, .int .i64 0] w fun e' w' => e' = .returned (.slice a k c) ∧ w' = w.alloc (.cells #[.int .i64 0] 30) := by
 go_enter Tryz.func63, Tryz.ntmps63
 go_wp2_with fail
 refine (leave_zero [0] _ 1 _ (by simp) rfl (errs1 _ _ _ rfl)).mono ?_
 rintro e w' ⟨rfl, rfl⟩
 go_wp2
 go_ret
 exact ⟨rfl, rfl⟩
theorem gotB_ok (b : Bool) (w : World) : Calls Tryz.prog 18 #[.bool b, .int .i64 0] w fun e' w' => e' = .returned (.bool b) ∧ w' = w.alloc (.cells #[.int .i64 0] 30) := by
 go_enter Tryz.func18, Tryz.ntmps18
 go_wp2_with fail
 refine (leave_zero [0] _ 1 _ (by simp) rfl (errs1 _ _ _ rfl)).mono ?_
 rintro e w' ⟨rfl, rfl⟩
 go_wp2
 go_ret
 exact ⟨rfl, rfl⟩
set_option maxHeartbeats 1000000 in
theorem gotState_ok (q : Q4) (w : World) : Calls Tryz.prog 11 #[.agg #[.slice q.sa q.sn q.sc, .slice q.ra q.rn q.rc, .slice q.wa q.wn q.tc, .slice q.va q.vn q.vc], .int .i64 0] w fun e' w' => e' = .returned (.agg #[.slice q.sa q.sn q.sc, .slice q.ra q.rn q.rc, .slice q.wa q.wn q.tc, .slice q.va q.vn q.vc]) ∧ Below w.heap.size w w' := by
 obtain ⟨W, hWe⟩ : ∃ W : World, W = ((w.alloc (.cells #[.slice q.sa q.sn q.sc, .slice q.ra q.rn q.rc, .slice q.wa q.wn q.tc, .slice q.va q.vn q.vc] 29)).alloc (.cells #[.slice none 0 0, .slice none 0 0, .slice none 0 0, .slice none 0 0] 29)) := ⟨_, rfl⟩
 have hW : Hid (Below w.heap.size w W) := by subst hWe; exact grow_alloc (grow_alloc (Below.refl _ _) _) _
 have p0 : W.cell? ⟨w.heap.size, 0, none⟩ = some (.slice q.sa q.sn q.sc) := by subst hWe; exact ext_cell (grow_alloc (Below.refl _ _) _) (at_new _ _ 29 _ 0 _ rfl rfl)
 have p1 : W.cell? ⟨w.heap.size, 1, none⟩ = some (.slice q.ra q.rn q.rc) := by subst hWe; exact ext_cell (grow_alloc (Below.refl _ _) _) (at_new _ _ 29 _ 1 _ rfl rfl)
 have p2 : W.cell? ⟨w.heap.size, 2, none⟩ = some (.slice q.wa q.wn q.tc) := by subst hWe; exact ext_cell (grow_alloc (Below.refl _ _) _) (at_new _ _ 29 _ 2 _ rfl rfl)
 have p3 : W.cell? ⟨w.heap.size, 3, none⟩ = some (.slice q.va q.vn q.vc) := by subst hWe; exact ext_cell (grow_alloc (Below.refl _ _) _) (at_new _ _ 29 _ 3 _ rfl rfl)
 have r0 : W.cell? ⟨w.heap.size + 1, 0, none⟩ = some (.slice none 0 0) := by subst hWe; exact at_new _ _ 29 _ 0 _ (by simp) rfl
 have r1 : W.cell? ⟨w.heap.size + 1, 1, none⟩ = some (.slice none 0 0) := by subst hWe; exact at_new _ _ 29 _ 1 _ (by simp) rfl
 have r2 : W.cell? ⟨w.heap.size + 1, 2, none⟩ = some (.slice none 0 0) := by subst hWe; exact at_new _ _ 29 _ 2 _ (by simp) rfl
 have r3 : W.cell? ⟨w.heap.size + 1, 3, none⟩ = some (.slice none 0 0) := by subst hWe; exact at_new _ _ 29 _ 3 _ (by simp) rfl
 have rf : ∀ j, W.frozen? ⟨w.heap.size + 1, j, none⟩ = false := by subst hWe; exact fun j => frozen_new _ _ 29 _ j (by simp)
 have sz : Hid (W.heap.size = w.heap.size + 2) := by subst hWe; show _ = _; simp
 have HWe : Hid (W = _) := hWe
 clear hWe
 go_enter Tryz.func11, Tryz.ntmps11
 go_upto_region 1 with fail
 rw [← HWe.out]
 clear HWe
 go_wp2_with fail
 refine (leave_zero [0] _ 1 _ (by simp) rfl (errs1 _ _ _ rfl)).mono ?_
 rintro e w' ⟨rfl, rfl⟩
 have gA : Below W.heap.size W (W.alloc (.cells #[.int .i64 0] 30)) := grow_alloc (Below.refl _ _) _
 have p0 := ext_cell gA p0
 have p1 := ext_cell gA p1
 have p2 := ext_cell gA p2
 have p3 := ext_cell gA p3
 have r0 := ext_cell gA r0
 have r1 := ext_cell gA r1
 have r2 := ext_cell gA r2
 have r3 := ext_cell gA r3
 have rf : ∀ j, (W.alloc (.cells #[.int .i64 0] 30)).frozen? ⟨w.heap.size + 1, j, none⟩ = false := fun j => (gA.frozen (p := ⟨w.heap.size + 1, j, none⟩) (by have := sz.out; show w.heap.size + 1 < _; omega)).trans (rf j)
 have BF : Hid (Below w.heap.size w (W.alloc (.cells #[.int .i64 0] 30))) := grow_trans hW.out gA
 clear gA
 generalize W.alloc (.cells #[.int .i64 0] 30) = V at *
 obtain ⟨x0, x1, x2, x3⟩ := put4 q r0 r1 r2 r3
 have FB : Hid (Below w.heap.size w ((((V.setCell ⟨w.heap.size + 1, 0, none⟩ (.slice q.sa q.sn q.sc)).setCell ⟨w.heap.size + 1, 1, none⟩ (.slice q.ra q.rn q.rc)).setCell ⟨w.heap.size + 1, 2, none⟩ (.slice q.wa q.wn q.tc)).setCell ⟨w.heap.size + 1, 3, none⟩ (.slice q.va q.vn q.vc))) := grow_set (grow_set (grow_set (grow_set BF.out (by simp) _) (by simp) _) (by simp) _) (by simp) _
 go_wp2_with fail
 refine bodyPost_ret (v := .agg #[.slice q.sa q.sn q.sc, .slice q.ra q.rn q.rc, .slice q.wa q.wn q.tc, .slice q.va q.vn q.vc]) (by simp [results, Tryz.results11, go_sem, x0, x1, x2, x3]) rfl ⟨rfl, FB.out⟩
def mpE (n : Nat) : Int := if 200 < n then 2 else 0
theorem manyPicks_any (a : Option Addr) (n c : Nat) (w : World) : Calls Tryz.prog 14 #[.slice a n c] w fun e w' => e = .returned (.int .i64 (mpE n)) ∧ w' = w := by
 by_cases h : 200 < n
 ·have e : mpE n = 2 := if_pos h
  have h' : (200 : Int) < (n : Int) := by omega
  rw [e]
  clear e h
  go_enter Tryz.func14, Tryz.ntmps14
  go_wp2
  go_ret
  exact ⟨rfl, rfl⟩
 ·have e : mpE n = 0 := if_neg h
  have h' : ¬ (200 : Int) < (n : Int) := by omega
  rw [e]
  clear e h
  go_enter Tryz.func14, Tryz.ntmps14
  go_wp2
  go_ret
  exact ⟨rfl, rfl⟩
def plK (pk : List Int) (c : Nat) : Nat := if pk.length = 0 then 0 else chK (pk.getD 0 0) c
theorem plK_lt (pk : List Int) {c : Nat} (h : 0 < c) : plK pk c < c := by
 unfold plK
 split
 ·exact h
 ·exact chK_lt _ h
theorem placeOf_any (pa : Option Addr) (pc : Nat) (pk : List Int) (c : Nat) (w : World) (hc : 0 < c) (hc' : c ≤ 100) (hp : IsInts w pa pk) (hw : ∀ i, i < pk.length → (Lit.int .i64 (pk.getD i 0)).wf = true) (hl : pk.length ≤ maxLen) :
  Calls Tryz.prog 66 #[.int .i64 c, .slice pa pk.length pc] w fun e w' => e = .returned (.int .i64 (plK pk c : Nat)) ∧ w' = w := by
 unfold maxLen at hl
 by_cases h0 : pk.length = 0
 ·have e : plK pk c = 0 := if_pos h0
  rw [e, h0]
  clear hp hw e h0 hl
  go_enter Tryz.func66, Tryz.ntmps66
  go_wp2
  go_ret
  exact ⟨rfl, rfl⟩
 ·have e : plK pk c = chK (pk.getD 0 0) c := if_neg h0
  rw [e]
  obtain ⟨b, off, ea, _, d⟩ := hp 0 (by omega)
  obtain ⟨x1, x2⟩ := wf_bounds (hw 0 (by omega))
  subst ea
  rw [Nat.add_zero] at d
  have hb : ((pk.length : Int) == 0) = false := by
   rw [beq_eq_false_iff_ne]
   omega
  have hpos : (0 : Int) < (pk.length : Int) := by omega
  generalize pk.getD 0 0 = x at *
  generalize pk.length = n at *
  clear hp hw e h0
  by_cases hx : x < 0
  ·have h1 : 0 ≤ (-(x + 1)) % (c : Int) := Int.emod_nonneg _ (by omega)
   have e0 : chK x c = ((-(x + 1)) % (c : Int)).toNat := if_pos hx
   rw [e0]
   generalize hk : ((-(x + 1)) % (c : Int)).toNat = K
   go_enter Tryz.func66, Tryz.ntmps66
   go_wp2
   go_ret
   refine ⟨?_, rfl⟩
   show Ending.returned (Value.int .i64 (-(x + 1).tmod ↑c)) = _
   rw [← hk, Int.toNat_of_nonneg h1, ← Int.neg_tmod, Int.tmod_eq_emod_of_nonneg (by omega)]
  ·have h1 : 0 ≤ x % (c : Int) := Int.emod_nonneg _ (by omega)
   have e0 : chK x c = (x % (c : Int)).toNat := if_neg hx
   rw [e0]
   generalize hk : (x % (c : Int)).toNat = K
   go_enter Tryz.func66, Tryz.ntmps66
   go_wp2
   go_ret
   refine ⟨?_, rfl⟩
   show Ending.returned (Value.int .i64 (x % ↑c)) = _
   rw [← hk, Int.toNat_of_nonneg h1]
end Go.Proofs.YtcgpkonfneofdaaGreat
namespace Go.Proofs.YtcgpkonfneofdaaGreat
open Go.RowKit
theorem put4_far {w : World} {R b i : Nat} {q : Q4} {u : Value} (hne : R ≠ b) (h : w.cell? ⟨b, i, none⟩ = some u) : ((((w.setCell ⟨R, 0, none⟩ (.slice q.sa q.sn q.sc)).setCell ⟨R, 1, none⟩ (.slice q.ra q.rn q.rc)).setCell ⟨R, 2, none⟩ (.slice q.wa q.wn q.tc)).setCell ⟨R, 3, none⟩ (.slice q.va q.vn q.vc)).cell? ⟨b, i, none⟩ = some u := by
 rw [World.cell?_setCell_far _ _ _ _ hne, World.cell?_setCell_far _ _ _ _ hne, World.cell?_setCell_far _ _ _ _ hne, World.cell?_setCell_far _ _ _ _ hne]
 exact h
variable (la : Option Addr) (lc : Nat) (l : List TxA) (pa : Option Addr) (pc : Nat) (pk : List Int)
set_option maxHeartbeats 4000000 in
theorem next_any (m : Int) (q : Q4) (S : SA) (w : World) (hl : IsTxs w la l) (hq : StaQ S q w) (hp : IsInts w pa pk) (hw : ∀ i, i < pk.length → (Lit.int .i64 (pk.getD i 0)).wf = true) (hm : pk.length ≤ maxLen) (hst : stE m l S = 0) (hov : 0 < (canE m l S).length) :
  Calls Tryz.prog 39 #[.agg #[.int .i64 m, .slice la l.length lc], .agg #[.slice q.sa q.sn q.sc, .slice q.ra q.rn q.rc, .slice q.wa q.wn q.tc, .slice q.va q.vn q.vc], .slice pa pk.length pc] w fun e w' => ∃ q' : Q4, e = .returned (.agg #[.slice q'.sa q'.sn q'.sc, .slice q'.ra q'.rn q'.rc, .slice q'.wa q'.wn q'.tc, .slice q'.va q'.vn q'.vc]) ∧ StaF w.heap.size (doS m l S (((canE m l S).getD (plK pk (canE m l S).length) (0, 0, 0)).1 : Nat) (((canE m l S).getD (plK pk (canE m l S).length) (0, 0, 0)).2.1 : Nat) (((canE m l S).getD (plK pk (canE m l S).length) (0, 0, 0)).2.2 : Nat)) q' w' ∧ Below w.heap.size w w' := by
 obtain ⟨W, hWe⟩ : ∃ W : World, W = (((w.alloc (.cells #[.int .i64 m, .slice la l.length lc] 24)).alloc (.cells #[.slice q.sa q.sn q.sc, .slice q.ra q.rn q.rc, .slice q.wa q.wn q.tc, .slice q.va q.vn q.vc] 29)).alloc (.cells #[.slice none 0 0, .slice none 0 0, .slice none 0 0, .slice none 0 0] 29)) := ⟨_, rfl⟩
 have hW : Hid (Below w.heap.size w W) := by subst hWe; exact (grow_alloc (grow_alloc (grow_alloc (Below.refl _ _) _) _) _)
 have sz : Hid (W.heap.size = w.heap.size + 3) := by subst hWe; show _ = _; simp
 have p0 : W.cell? ⟨w.heap.size, 0, none⟩ = some (.int .i64 m) := by subst hWe; exact ext_cell (grow_alloc (grow_alloc (Below.refl _ _) _) _) (at_new _ _ 24 _ 0 _ (by first | rfl | simp) rfl)
 have p1 : W.cell? ⟨w.heap.size, 1, none⟩ = some (.slice la l.length lc) := by subst hWe; exact ext_cell (grow_alloc (grow_alloc (Below.refl _ _) _) _) (at_new _ _ 24 _ 1 _ (by first | rfl | simp) rfl)
 have k0 : W.cell? ⟨w.heap.size + 1, 0, none⟩ = some (.slice q.sa q.sn q.sc) := by subst hWe; exact ext_cell (grow_alloc (Below.refl _ _) _) (at_new _ _ 29 _ 0 _ (by first | rfl | simp) rfl)
 have k1 : W.cell? ⟨w.heap.size + 1, 1, none⟩ = some (.slice q.ra q.rn q.rc) := by subst hWe; exact ext_cell (grow_alloc (Below.refl _ _) _) (at_new _ _ 29 _ 1 _ (by first | rfl | simp) rfl)
 have k2 : W.cell? ⟨w.heap.size + 1, 2, none⟩ = some (.slice q.wa q.wn q.tc) := by subst hWe; exact ext_cell (grow_alloc (Below.refl _ _) _) (at_new _ _ 29 _ 2 _ (by first | rfl | simp) rfl)
 have k3 : W.cell? ⟨w.heap.size + 1, 3, none⟩ = some (.slice q.va q.vn q.vc) := by subst hWe; exact ext_cell (grow_alloc (Below.refl _ _) _) (at_new _ _ 29 _ 3 _ (by first | rfl | simp) rfl)
 have s0 : W.cell? ⟨w.heap.size + 2, 0, none⟩ = some (.slice none 0 0) := by subst hWe; exact ext_cell (Below.refl _ _) (at_new _ _ 29 _ 0 _ (by first | rfl | simp) rfl)
 have s1 : W.cell? ⟨w.heap.size + 2, 1, none⟩ = some (.slice none 0 0) := by subst hWe; exact ext_cell (Below.refl _ _) (at_new _ _ 29 _ 1 _ (by first | rfl | simp) rfl)
 have s2 : W.cell? ⟨w.heap.size + 2, 2, none⟩ = some (.slice none 0 0) := by subst hWe; exact ext_cell (Below.refl _ _) (at_new _ _ 29 _ 2 _ (by first | rfl | simp) rfl)
 have s3 : W.cell? ⟨w.heap.size + 2, 3, none⟩ = some (.slice none 0 0) := by subst hWe; exact ext_cell (Below.refl _ _) (at_new _ _ 29 _ 3 _ (by first | rfl | simp) rfl)
 have SF : Hid (∀ j, W.frozen? ⟨w.heap.size + 2, j, none⟩ = false) := by subst hWe; exact fun j => frozen_new _ _ 29 _ j (by simp)
 have KEEP : Hid (∀ w', Below W.heap.size W w' → w'.cell? ⟨w.heap.size, 0, none⟩ = some (.int .i64 m) ∧ w'.cell? ⟨w.heap.size, 1, none⟩ = some (.slice la l.length lc) ∧ w'.cell? ⟨w.heap.size + 1, 0, none⟩ = some (.slice q.sa q.sn q.sc) ∧ w'.cell? ⟨w.heap.size + 1, 1, none⟩ = some (.slice q.ra q.rn q.rc) ∧ w'.cell? ⟨w.heap.size + 1, 2, none⟩ = some (.slice q.wa q.wn q.tc) ∧ w'.cell? ⟨w.heap.size + 1, 3, none⟩ = some (.slice q.va q.vn q.vc) ∧ w'.cell? ⟨w.heap.size + 2, 0, none⟩ = some (.slice none 0 0) ∧ w'.cell? ⟨w.heap.size + 2, 1, none⟩ = some (.slice none 0 0) ∧ w'.cell? ⟨w.heap.size + 2, 2, none⟩ = some (.slice none 0 0) ∧ w'.cell? ⟨w.heap.size + 2, 3, none⟩ = some (.slice none 0 0)) := fun w' hb => ⟨ext_cell hb p0, ext_cell hb p1, ext_cell hb k0, ext_cell hb k1, ext_cell hb k2, ext_cell hb k3, ext_cell hb s0, ext_cell hb s1, ext_cell hb s2, ext_cell hb s3⟩
 have CN : Hid (Calls Tryz.prog 64 #[.agg #[.int .i64 m, .slice la l.length lc], .agg #[.slice q.sa q.sn q.sc, .slice q.ra q.rn q.rc, .slice q.wa q.wn q.tc, .slice q.va q.vn q.vc]] W fun e w' => ∃ a c, e = .returned (.tuple #[.slice a (canE m l S).length c, .int .i64 0]) ∧ IsSteps w' a (canE m l S) ∧ Below W.heap.size W w') := by
  have h := can_q (m := m) (c := lc) (hl.below hW.out) (hq.below hW.out)
  rw [hst] at h
  exact h
 have hL64 : (canE m l S).length ≤ 64 := by
  have e2 : canE m l S = canL m.toNat l S := if_pos hst
  obtain ⟨sh, rfl, _, h4, hc, _⟩ := stE_zero hst
  rw [e2]
  exact canL_len _ _ _ (chkL_len hc) (by simpa using h4)
 have hci := plK_lt pk hov
 have hdo : doE m l S (((canE m l S).getD (plK pk (canE m l S).length) (0, 0, 0)).1 : Nat) (((canE m l S).getD (plK pk (canE m l S).length) (0, 0, 0)).2.1 : Nat) (((canE m l S).getD (plK pk (canE m l S).length) (0, 0, 0)).2.2 : Nat) = 0 := can_do0 hst (by simp [List.getD, hci])
 have CD : Hid (∀ w', Below W.heap.size W w' → Calls Tryz.prog 65 #[.agg #[.int .i64 m, .slice la l.length lc], .agg #[.slice q.sa q.sn q.sc, .slice q.ra q.rn q.rc, .slice q.wa q.wn q.tc, .slice q.va q.vn q.vc], .agg #[.int .i64 (((canE m l S).getD (plK pk (canE m l S).length) (0, 0, 0)).1 : Nat), .int .i64 (((canE m l S).getD (plK pk (canE m l S).length) (0, 0, 0)).2.1 : Nat), .int .i64 (((canE m l S).getD (plK pk (canE m l S).length) (0, 0, 0)).2.2 : Nat)]] w' fun e w'' => ∃ q' : Q4, e = .returned (.tuple #[.agg #[.slice q'.sa q'.sn q'.sc, .slice q'.ra q'.rn q'.rc, .slice q'.wa q'.wn q'.tc, .slice q'.va q'.vn q'.vc], .int .i64 0]) ∧ StaF w'.heap.size (doS m l S (((canE m l S).getD (plK pk (canE m l S).length) (0, 0, 0)).1 : Nat) (((canE m l S).getD (plK pk (canE m l S).length) (0, 0, 0)).2.1 : Nat) (((canE m l S).getD (plK pk (canE m l S).length) (0, 0, 0)).2.2 : Nat)) q' w'' ∧ Below w'.heap.size w' w'') := fun w' hb => by
  have h := do_q (m := m) (c := lc) (((canE m l S).getD (plK pk (canE m l S).length) (0, 0, 0)).1 : Nat) (((canE m l S).getD (plK pk (canE m l S).length) (0, 0, 0)).2.1 : Nat) (((canE m l S).getD (plK pk (canE m l S).length) (0, 0, 0)).2.2 : Nat) ((hl.below hW.out).below hb) ((hq.below hW.out).below hb)
  rw [hdo] at h
  exact h
 have CP : Hid (∀ w', Below W.heap.size W w' → Calls Tryz.prog 66 #[.int .i64 (canE m l S).length, .slice pa pk.length pc] w' fun e w'' => e = .returned (.int .i64 (plK pk (canE m l S).length : Nat)) ∧ w'' = w') := fun w' hb => placeOf_any pa pc pk _ w' hov (by omega) ((hp.below hW.out).below hb) hw hm
 clear hl hq hp hw hm hst hdo p0 p1 k0 k1 k2 k3 s0 s1 s2 s3
 generalize doS m l S (((canE m l S).getD (plK pk (canE m l S).length) (0, 0, 0)).1 : Nat) (((canE m l S).getD (plK pk (canE m l S).length) (0, 0, 0)).2.1 : Nat) (((canE m l S).getD (plK pk (canE m l S).length) (0, 0, 0)).2.2 : Nat) = S5 at *
 generalize canE m l S = L at *
 have HWe : Hid (W = _) := hWe
 clear hWe
 go_enter Tryz.func39, Tryz.ntmps39
 go_upto_region 1 with fail
 rw [← HWe.out]
 clear HWe
 obtain ⟨p0, p1, k0, k1, k2, k3, s0, s1, s2, s3⟩ := KEEP.out W (Below.refl _ _)
 go_wp2_with fail
 refine CN.out.mono ?_
 rintro e w1 ⟨a, c, rfl, hsp, hb1⟩
 clear p0 p1 k0 k1 k2 k3 s0 s1 s2 s3 CN
 go_wp2_with fail
 refine (gotSteps_ok _ _ _ _).mono ?_
 rintro e w2 ⟨rfl, rfl⟩
 have gA : Below w1.heap.size w1 (w1.alloc (.cells #[.int .i64 0] 30)) := grow_alloc (Below.refl _ _) _
 have BV : Hid (Below W.heap.size W (w1.alloc (.cells #[.int .i64 0] 30))) := grow_trans hb1 gA
 obtain ⟨sb, so, es, _, c0', c1', c2'⟩ := hsp (plK pk L.length) hci
 subst es
 have c0 := ext_cell gA c0'
 have c1 := ext_cell gA c1'
 have c2 := ext_cell gA c2'
 clear hb1 gA hsp c0' c1' c2'
 generalize ((L.getD (plK pk L.length) (0, 0, 0)).1 : Nat) = x1 at *
 generalize ((L.getD (plK pk L.length) (0, 0, 0)).2.1 : Nat) = x2 at *
 generalize ((L.getD (plK pk L.length) (0, 0, 0)).2.2 : Nat) = x3 at *
 go_upto_region 2 with fail
 generalize (w1.alloc (.cells #[.int .i64 0] 30)) = V at *
 obtain ⟨p0, p1, k0, k1, k2, k3, s0, s1, s2, s3⟩ := KEEP.out V BV.out
 have KS : Hid (∀ w', Below V.heap.size V w' → w'.cell? ⟨w.heap.size, 0, none⟩ = some (.int .i64 m) ∧ w'.cell? ⟨w.heap.size, 1, none⟩ = some (.slice la l.length lc) ∧ w'.cell? ⟨w.heap.size + 1, 0, none⟩ = some (.slice q.sa q.sn q.sc) ∧ w'.cell? ⟨w.heap.size + 1, 1, none⟩ = some (.slice q.ra q.rn q.rc) ∧ w'.cell? ⟨w.heap.size + 1, 2, none⟩ = some (.slice q.wa q.wn q.tc) ∧ w'.cell? ⟨w.heap.size + 1, 3, none⟩ = some (.slice q.va q.vn q.vc)) := fun w' hb => ⟨ext_cell hb p0, ext_cell hb p1, ext_cell hb k0, ext_cell hb k1, ext_cell hb k2, ext_cell hb k3⟩
 clear p0 p1 k0 k1 k2 k3 s0 s1 s2 s3
 refine wp_region_held_drew (S := (fun w' => w'.cell? ⟨w.heap.size, 0, none⟩ = some (.int .i64 m) ∧ w'.cell? ⟨w.heap.size, 1, none⟩ = some (.slice la l.length lc) ∧ w'.cell? ⟨w.heap.size + 1, 0, none⟩ = some (.slice q.sa q.sn q.sc) ∧ w'.cell? ⟨w.heap.size + 1, 1, none⟩ = some (.slice q.ra q.rn q.rc) ∧ w'.cell? ⟨w.heap.size + 1, 2, none⟩ = some (.slice q.wa q.wn q.tc) ∧ w'.cell? ⟨w.heap.size + 1, 3, none⟩ = some (.slice q.va q.vn q.vc))) (by kernel_rfl) ?_ (fun hHeld => ?_)
 ·refine KS.out _ ?_
  exact grow_drew (Below.refl _ _)
 refine tk (i := 0) (oi := { dst := some 14, op := .load 24 (.tmp 3), type := 24, pos := "play.go:56", after := #[], guard := none }) (v := ?_) rfl (by kernel_rfl) (by kernel_rfl) (by kernel_rfl) (fun _ _ _ h => h) (by rfl) (by assumption) ?_ ?_; rotate_left; focus (intro w hSw; go_simp; first | done | with_reducible rfl)
 try simp only [Act.put, List.setIfInBounds_toArray, List.set_cons_zero, List.set_cons_succ]
 refine tk (i := 1) (oi := { dst := some 15, op := .load 29 (.tmp 4), type := 29, pos := "play.go:56", after := #[], guard := none }) (v := ?_) rfl (by kernel_rfl) (by kernel_rfl) (by kernel_rfl) (fun _ _ _ h => h) (by rfl) (by assumption) ?_ ?_; rotate_left; focus (intro w hSw; go_simp; first | done | with_reducible rfl)
 try simp only [Act.put, List.setIfInBounds_toArray, List.set_cons_zero, List.set_cons_succ]
 refine tk (i := 2) (oi := { dst := some 16, op := .move (.tmp 7), type := 119, pos := "play.go:56", after := #[], guard := none }) (v := ?_) rfl (by kernel_rfl) (by kernel_rfl) (by kernel_rfl) (fun _ _ _ h => h) (by rfl) (by assumption) ?_ ?_; rotate_left; focus (intro w hSw; go_simp; first | done | with_reducible rfl)
 try simp only [Act.put, List.setIfInBounds_toArray, List.set_cons_zero, List.set_cons_succ]
 refine tk (i := 3) (oi := { dst := some 17, op := .move (.tmp 7), type := 119, pos := "play.go:56", after := #[], guard := none }) (v := ?_) rfl (by kernel_rfl) (by kernel_rfl) (by kernel_rfl) (fun _ _ _ h => h) (by rfl) (by assumption) ?_ ?_; rotate_left; focus (intro w hSw; go_simp; first | done | with_reducible rfl)
 try simp only [Act.put, List.setIfInBounds_toArray, List.set_cons_zero, List.set_cons_succ]
 refine tk (i := 4) (oi := { dst := some 18, op := .call { callee := .builtin .len, args := #[.tmp 17], argTypes := #[119] }, type := 3, pos := "play.go:56", after := #[{ on := 3, ground := .data }], guard := none }) (v := ?_) rfl (by kernel_rfl) (by kernel_rfl) (by kernel_rfl) (fun _ _ _ h => h) (by rfl) (by assumption) ?_ ?_; rotate_left; focus (intro w hSw; go_simp; first | done | with_reducible rfl)
 try simp only [Act.put, List.setIfInBounds_toArray, List.set_cons_zero, List.set_cons_succ]
 refine tk (i := 5) (oi := { dst := some 19, op := .move (.tmp 2), type := 25, pos := "play.go:56", after := #[], guard := none }) (v := ?_) rfl (by kernel_rfl) (by kernel_rfl) (by kernel_rfl) (fun _ _ _ h => h) (by rfl) (by assumption) ?_ ?_; rotate_left; focus (intro w hSw; go_simp; first | done | with_reducible rfl)
 try simp only [Act.put, List.setIfInBounds_toArray, List.set_cons_zero, List.set_cons_succ]
 refine wpAnyH_ready (rs := [6]) (by kernel_rfl) (by simp) ?_
 refine AllReadyH.cons (o := { dst := some 20, op := .call { callee := .value (.func 66), args := #[.tmp 18, .tmp 19], argTypes := #[3, 25] }, type := 3, pos := "play.go:56", after := #[{ on := 4, ground := .data }, { on := 5, ground := .data }], guard := none }) rfl (fun K hK => ?_) AllReadyH.nil
 go_simp
 go_wp2_with (go_at_call 66; refine (CP.out _ (grow_trans BV.out (grow_drew (Below.refl _ _)))).mono ?_; rintro e w3 ⟨rfl, e3⟩; have e4 := e3.symm; subst e4)
 skip
 clear hHeld
 refine hK.out _ _ (KS.out _ (grow_drew (Below.refl _ _))) (fun hHeld => ?_)
 clear hK K
 refine tk (i := 7) (oi := { dst := some 21, op := .indexAddr 119 (.tmp 16) (.tmp 20), type := 0, pos := "play.go:56", after := #[{ on := 2, ground := .data }, { on := 6, ground := .data }], guard := none }) (v := ?_) rfl (by kernel_rfl) (by kernel_rfl) (by kernel_rfl) (fun _ _ _ h => h) (by rfl) (by assumption) ?_ ?_; rotate_left; focus (intro w hSw; go_simp; first | done | with_reducible rfl)
 try simp only [Act.put, List.setIfInBounds_toArray, List.set_cons_zero, List.set_cons_succ]
 refine wpAnyH_ready (rs := [8]) (by kernel_rfl) (by simp) ?_
 refine AllReadyH.cons (o := { dst := some 22, op := .load 125 (.tmp 21), type := 125, pos := "play.go:56", after := #[{ on := 7, ground := .data }], guard := none }) rfl (fun K hK => ?_) AllReadyH.nil
 go_simp
 skip
 clear hHeld
 refine hK.out _ _ (KS.out _ (grow_drew (Below.refl _ _))) (fun hHeld => ?_)
 clear hK K
 refine wpAnyH_ready (rs := [9]) (by kernel_rfl) (by simp) ?_
 refine AllReadyH.cons (o := { dst := some 23, op := .call { callee := .value (.func 65), args := #[.tmp 14, .tmp 15, .tmp 22], argTypes := #[24, 29, 125] }, type := 48, pos := "play.go:56", after := #[{ on := 0, ground := .data }, { on := 1, ground := .data }, { on := 8, ground := .data }, { on := 6, ground := .chain }], guard := none }) rfl (fun K hK => ?_) AllReadyH.nil
 go_simp
 go_wp2_with (go_at_call 65; refine (CD.out _ (grow_trans BV.out (grow_drew (Below.refl _ _)))).mono ?_; rintro e w4 ⟨q5, rfl, h5, hb4⟩)
 have B4 : Hid (Below V.heap.size V w4) := grow_trans (grow_drew (Below.refl _ _)) hb4
 clear hHeld
 refine hK.out _ _ (KS.out _ B4.out) (fun hHeld => ?_)
 clear hK K
 refine tk (i := 10) (oi := { dst := some 24, op := .extract (.tmp 23) 0, type := 29, pos := "play.go:56", after := #[{ on := 9, ground := .data }], guard := none }) (v := ?_) rfl (by kernel_rfl) (by kernel_rfl) (by kernel_rfl) (fun _ _ _ h => h) (by rfl) (by assumption) ?_ ?_; rotate_left; focus (intro w hSw; go_simp; first | done | with_reducible rfl)
 try simp only [Act.put, List.setIfInBounds_toArray, List.set_cons_zero, List.set_cons_succ]
 refine tk (i := 11) (oi := { dst := some 25, op := .extract (.tmp 23) 1, type := 30, pos := "play.go:56", after := #[{ on := 9, ground := .data }], guard := none }) (v := ?_) rfl (by kernel_rfl) (by kernel_rfl) (by kernel_rfl) (fun _ _ _ h => h) (by rfl) (by assumption) ?_ ?_; rotate_left; focus (intro w hSw; go_simp; first | done | with_reducible rfl)
 try simp only [Act.put, List.setIfInBounds_toArray, List.set_cons_zero, List.set_cons_succ]
 refine wpAnyH_ready (rs := [12]) (by kernel_rfl) (by simp) ?_
 refine AllReadyH.cons (o := { dst := some 26, op := .call { callee := .value (.func 11), args := #[.tmp 24, .tmp 25], argTypes := #[29, 30] }, type := 29, pos := "play.go:56", after := #[{ on := 10, ground := .data }, { on := 11, ground := .data }, { on := 9, ground := .chain }], guard := none }) rfl (fun K hK => ?_) AllReadyH.nil
 go_simp
 go_wp2_with (go_at_call 11; refine (gotState_ok _ _).mono ?_; rintro e w5 ⟨rfl, hb5⟩)
 have B5 : Hid (Below V.heap.size V w5) := grow_trans B4.out hb5
 have BW5 : Hid (Below W.heap.size W w5) := grow_trans BV.out B5.out
 obtain ⟨p0, p1, k0, k1, k2, k3, s0, s1, s2, s3⟩ := KEEP.out w5 BW5.out
 have sf : ∀ j, w5.frozen? ⟨w.heap.size + 2, j, none⟩ = false := fun j => (BW5.out.frozen (p := ⟨w.heap.size + 2, j, none⟩) (by have := sz.out; show w.heap.size + 2 < _; omega)).trans (SF.out j)
 obtain ⟨y0, y1, y2, y3⟩ := put4 q5 s0 s1 s2 s3
 have hlt : w.heap.size + 2 < V.heap.size := by have := sz.out; have := BV.out.size; omega
 have FS : Hid (StaF w.heap.size S5 q5 ((((w5.setCell ⟨w.heap.size + 2, 0, none⟩ (.slice q5.sa q5.sn q5.sc)).setCell ⟨w.heap.size + 2, 1, none⟩ (.slice q5.ra q5.rn q5.rc)).setCell ⟨w.heap.size + 2, 2, none⟩ (.slice q5.wa q5.wn q5.tc)).setCell ⟨w.heap.size + 2, 3, none⟩ (.slice q5.va q5.vn q5.vc))) := (((((h5.low (show V.heap.size ≤ _ from Nat.le_refl _)).below hb5).set _ 0 _ hlt |>.set _ 1 _ hlt).set _ 2 _ hlt).set _ 3 _ hlt).low (by omega)
 have FB : Hid (Below w.heap.size w ((((w5.setCell ⟨w.heap.size + 2, 0, none⟩ (.slice q5.sa q5.sn q5.sc)).setCell ⟨w.heap.size + 2, 1, none⟩ (.slice q5.ra q5.rn q5.rc)).setCell ⟨w.heap.size + 2, 2, none⟩ (.slice q5.wa q5.wn q5.tc)).setCell ⟨w.heap.size + 2, 3, none⟩ (.slice q5.va q5.vn q5.vc))) := grow_set (grow_set (grow_set (grow_set (grow_trans hW.out BW5.out) (by simp) _) (by simp) _) (by simp) _) (by simp) _
 have PF : Hid (((((w5.setCell ⟨w.heap.size + 2, 0, none⟩ (.slice q5.sa q5.sn q5.sc)).setCell ⟨w.heap.size + 2, 1, none⟩ (.slice q5.ra q5.rn q5.rc)).setCell ⟨w.heap.size + 2, 2, none⟩ (.slice q5.wa q5.wn q5.tc)).setCell ⟨w.heap.size + 2, 3, none⟩ (.slice q5.va q5.vn q5.vc)).cell? ⟨w.heap.size, 0, none⟩ = some (.int .i64 m) ∧ ((((w5.setCell ⟨w.heap.size + 2, 0, none⟩ (.slice q5.sa q5.sn q5.sc)).setCell ⟨w.heap.size + 2, 1, none⟩ (.slice q5.ra q5.rn q5.rc)).setCell ⟨w.heap.size + 2, 2, none⟩ (.slice q5.wa q5.wn q5.tc)).setCell ⟨w.heap.size + 2, 3, none⟩ (.slice q5.va q5.vn q5.vc)).cell? ⟨w.heap.size, 1, none⟩ = some (.slice la l.length lc) ∧ ((((w5.setCell ⟨w.heap.size + 2, 0, none⟩ (.slice q5.sa q5.sn q5.sc)).setCell ⟨w.heap.size + 2, 1, none⟩ (.slice q5.ra q5.rn q5.rc)).setCell ⟨w.heap.size + 2, 2, none⟩ (.slice q5.wa q5.wn q5.tc)).setCell ⟨w.heap.size + 2, 3, none⟩ (.slice q5.va q5.vn q5.vc)).cell? ⟨w.heap.size + 1, 0, none⟩ = some (.slice q.sa q.sn q.sc) ∧ ((((w5.setCell ⟨w.heap.size + 2, 0, none⟩ (.slice q5.sa q5.sn q5.sc)).setCell ⟨w.heap.size + 2, 1, none⟩ (.slice q5.ra q5.rn q5.rc)).setCell ⟨w.heap.size + 2, 2, none⟩ (.slice q5.wa q5.wn q5.tc)).setCell ⟨w.heap.size + 2, 3, none⟩ (.slice q5.va q5.vn q5.vc)).cell? ⟨w.heap.size + 1, 1, none⟩ = some (.slice q.ra q.rn q.rc) ∧ ((((w5.setCell ⟨w.heap.size + 2, 0, none⟩ (.slice q5.sa q5.sn q5.sc)).setCell ⟨w.heap.size + 2, 1, none⟩ (.slice q5.ra q5.rn q5.rc)).setCell ⟨w.heap.size + 2, 2, none⟩ (.slice q5.wa q5.wn q5.tc)).setCell ⟨w.heap.size + 2, 3, none⟩ (.slice q5.va q5.vn q5.vc)).cell? ⟨w.heap.size + 1, 2, none⟩ = some (.slice q.wa q.wn q.tc) ∧ ((((w5.setCell ⟨w.heap.size + 2, 0, none⟩ (.slice q5.sa q5.sn q5.sc)).setCell ⟨w.heap.size + 2, 1, none⟩ (.slice q5.ra q5.rn q5.rc)).setCell ⟨w.heap.size + 2, 2, none⟩ (.slice q5.wa q5.wn q5.tc)).setCell ⟨w.heap.size + 2, 3, none⟩ (.slice q5.va q5.vn q5.vc)).cell? ⟨w.heap.size + 1, 3, none⟩ = some (.slice q.va q.vn q.vc)) := ⟨put4_far (by omega) p0, put4_far (by omega) p1, put4_far (by omega) k0, put4_far (by omega) k1, put4_far (by omega) k2, put4_far (by omega) k3⟩
 clear hHeld
 refine hK.out _ _ (KS.out _ B5.out) (fun hHeld => ?_)
 clear hK K
 refine wpAnyH_ready (rs := [13]) (by kernel_rfl) (by simp) ?_
 refine AllReadyH.cons (o := { dst := none, op := .store 29 (.tmp 6) (.tmp 26), type := 0, pos := "play.go:56", after := #[{ on := 12, ground := .data }, { on := 12, ground := .chain }, { on := 0, ground := .phase }, { on := 1, ground := .phase }, { on := 2, ground := .phase }, { on := 3, ground := .phase }, { on := 4, ground := .phase }, { on := 5, ground := .phase }, { on := 6, ground := .phase }, { on := 7, ground := .phase }, { on := 8, ground := .phase }, { on := 9, ground := .phase }, { on := 10, ground := .phase }, { on := 11, ground := .phase }, { on := 12, ground := .phase }], guard := none }) rfl (fun K hK => ?_) AllReadyH.nil
 go_simp
 skip
 clear hHeld
 refine hK.out _ _ (PF.out) (fun hHeld => ?_)
 clear hK K
 refine wpAnyH_done (by kernel_rfl) ?_ _
 go_wp2
 refine bodyPost_ret (v := .agg #[.slice q5.sa q5.sn q5.sc, .slice q5.ra q5.rn q5.rc, .slice q5.wa q5.wn q5.tc, .slice q5.va q5.vn q5.vc]) (by simp [results, Tryz.results39, go_sem, y0, y1, y2, y3]) rfl ⟨q5, rfl, FS.out, FB.out⟩
end Go.Proofs.YtcgpkonfneofdaaGreat
namespace Go.Proofs.YtcgpkonfneofdaaGreat
open Go.RowKit
theorem chK_pick (x : Int) (c : Nat) : chK x c = if x < 0 then (-(x + 1)).toNat % c else x.toNat % c := by
 have key : ∀ y : Int, 0 ≤ y → (y % (c : Int)).toNat = y.toNat % c := fun y hy => by
  obtain ⟨n, rfl⟩ := Int.eq_ofNat_of_zero_le hy
  rw [← Int.natCast_emod]
  exact Int.toNat_natCast _
 unfold chK
 by_cases h : x < 0
 ·rw [if_pos h, if_pos h]
  exact key _ (by omega)
 ·rw [if_neg h, if_neg h]
  exact key _ (by omega)
theorem plK_pick (pk : List Int) (i c : Nat) : plK (pk.drop (min i pk.length)) c = pickAt pk i c := by
 unfold plK pickAt
 by_cases h : i < pk.length
 ·have e : min i pk.length = i := by omega
  have e2 : (pk.drop i).getD 0 0 = pk.getD i 0 := by simp [List.getD]
  rw [e, if_neg (by rw [List.length_drop]; omega), if_pos h, e2, chK_pick _ _]
 ·have e : min i pk.length = pk.length := by omega
  rw [e, if_pos (by simp), if_neg h]
def KO (lo a O : Nat) (S : SA) (q : Q4) (w : World) : Prop := ∀ w' : World, (∀ b, lo ≤ b → (b < a ∨ O < b) → b < w.heap.size → w'.heap[b]? = w.heap[b]?) → w.heap.size ≤ w'.heap.size → StaQ S q w'
theorem KO.sta {lo a O : Nat} {S : SA} {q : Q4} {w : World} (h : KO lo a O S q w) : StaQ S q w := h w (fun _ _ _ _ => rfl) (Nat.le_refl _)
theorem KO.staF {lo a O : Nat} {S : SA} {q : Q4} {w : World} (h : KO lo a O S q w) : StaF lo S q w := fun w' h1 h2 => h w' (fun b hb _ hs => h1 b hb hs) h2
theorem KO.set {lo a O : Nat} {S : SA} {q : Q4} {w : World} (h : KO lo a O S q w) {R : Nat} (ha : a ≤ R) (hR : R ≤ O) (j : Nat) (u : Value) : KO lo a O S q (w.setCell ⟨R, j, none⟩ u) := fun w' h1 h2 => h w' (fun b hl hb hs => (h1 b hl hb (by rw [World.size_setCell]; exact hs)).trans (set_block w R j u b (by omega))) (by rw [World.size_setCell] at h2; exact h2)
theorem KO.below {lo a O : Nat} {S : SA} {q : Q4} {w w' : World} (h : KO lo a O S q w) (hb : Below w.heap.size w w') : KO lo a O S q w' := fun w2 h1 h2 => h w2 (fun b hl hO hs => (h1 b hl hO (Nat.lt_of_lt_of_le hs hb.size)).trans (hb.block b hs)) (Nat.le_trans hb.size h2)
theorem StaF.ko {lo lo' a O : Nat} {S : SA} {q : Q4} {w : World} (h : StaF lo' S q w) (hl : lo ≤ lo') (hO : O < lo') : KO lo a O S q w := fun w' h1 h2 => h w' (fun b hb hs => h1 b (by omega) (by omega) hs) h2
theorem StaF.ko0 {lo O : Nat} {S : SA} {q : Q4} {w w' : World} (h : StaF lo S q w) (hb : Below w.heap.size w w') : KO lo w.heap.size O S q w' := fun w2 h1 h2 => h w2 (fun b hl hs => (h1 b hl (Or.inl hs) (Nat.lt_of_lt_of_le hs hb.size)).trans (hb.block b hs)) (Nat.le_trans hb.size h2)
theorem put5 {w : World} {R : Nat} (q : Q4) (n : Int) {u0 u1 u2 u3 u4 : Value} (t0 : w.cell? ⟨R, 0, none⟩ = some u0) (t1 : w.cell? ⟨R, 1, none⟩ = some u1) (t2 : w.cell? ⟨R, 2, none⟩ = some u2) (t3 : w.cell? ⟨R, 3, none⟩ = some u3) (t4 : w.cell? ⟨R, 4, none⟩ = some u4) : (((((w.setCell ⟨R, 0, none⟩ (.slice q.sa q.sn q.sc)).setCell ⟨R, 1, none⟩ (.slice q.ra q.rn q.rc)).setCell ⟨R, 2, none⟩ (.slice q.wa q.wn q.tc)).setCell ⟨R, 3, none⟩ (.slice q.va q.vn q.vc)).setCell ⟨R, 4, none⟩ (.int .i64 n)).cell? ⟨R, 0, none⟩ = some (.slice q.sa q.sn q.sc) ∧ (((((w.setCell ⟨R, 0, none⟩ (.slice q.sa q.sn q.sc)).setCell ⟨R, 1, none⟩ (.slice q.ra q.rn q.rc)).setCell ⟨R, 2, none⟩ (.slice q.wa q.wn q.tc)).setCell ⟨R, 3, none⟩ (.slice q.va q.vn q.vc)).setCell ⟨R, 4, none⟩ (.int .i64 n)).cell? ⟨R, 1, none⟩ = some (.slice q.ra q.rn q.rc) ∧ (((((w.setCell ⟨R, 0, none⟩ (.slice q.sa q.sn q.sc)).setCell ⟨R, 1, none⟩ (.slice q.ra q.rn q.rc)).setCell ⟨R, 2, none⟩ (.slice q.wa q.wn q.tc)).setCell ⟨R, 3, none⟩ (.slice q.va q.vn q.vc)).setCell ⟨R, 4, none⟩ (.int .i64 n)).cell? ⟨R, 2, none⟩ = some (.slice q.wa q.wn q.tc) ∧ (((((w.setCell ⟨R, 0, none⟩ (.slice q.sa q.sn q.sc)).setCell ⟨R, 1, none⟩ (.slice q.ra q.rn q.rc)).setCell ⟨R, 2, none⟩ (.slice q.wa q.wn q.tc)).setCell ⟨R, 3, none⟩ (.slice q.va q.vn q.vc)).setCell ⟨R, 4, none⟩ (.int .i64 n)).cell? ⟨R, 3, none⟩ = some (.slice q.va q.vn q.vc) ∧ (((((w.setCell ⟨R, 0, none⟩ (.slice q.sa q.sn q.sc)).setCell ⟨R, 1, none⟩ (.slice q.ra q.rn q.rc)).setCell ⟨R, 2, none⟩ (.slice q.wa q.wn q.tc)).setCell ⟨R, 3, none⟩ (.slice q.va q.vn q.vc)).setCell ⟨R, 4, none⟩ (.int .i64 n)).cell? ⟨R, 4, none⟩ = some (.int .i64 n) := by
 obtain ⟨y0, y1, y2, y3⟩ := put4 q t0 t1 t2 t3
 exact ⟨set_off (by decide) y0, set_off (by decide) y1, set_off (by decide) y2, set_off (by decide) y3, set_here (set_off (by decide) (set_off (by decide) (set_off (by decide) (set_off (by decide) t4))))⟩
theorem ints_drop {w : World} {b off d : Nat} {pk : List Int} (h : IsInts w (some ⟨b, off, none⟩) pk) : IsInts w (some ⟨b, off + d, none⟩) (pk.drop d) := fun i hi => by
 rw [List.length_drop] at hi
 obtain ⟨b', off', e, hb, hc⟩ := h (d + i) (by omega)
 injection e with e
 injection e with e1 e2
 subst e1 e2
 refine ⟨b, off + d, rfl, hb, ?_⟩
 rw [Nat.add_assoc, hc]
 simp [List.getD]
structure Way (m : Int) (l : List TxA) (pk s : List Int) : Prop where
 st : ∀ i, i ≤ cntAll m.toNat l → stE m l (runX m.toNat l pk s i) = 0
 ov : ∀ i, i ≤ cntAll m.toNat l → ovE m l (runX m.toNat l pk s i) = decide (i = cntAll m.toNat l)
 can : ∀ i, i < cntAll m.toNat l → 0 < (canE m l (runX m.toNat l pk s i)).length
 nx : ∀ i, i < cntAll m.toNat l → ∀ x, x = (canE m l (runX m.toNat l pk s i)).getD (plK (pk.drop (min i pk.length)) (canE m l (runX m.toNat l pk s i)).length) (0, 0, 0) → doS m l (runX m.toNat l pk s i) (x.1 : Nat) (x.2.1 : Nat) (x.2.2 : Nat) = runX m.toNat l pk s (i + 1)
 n : cntAll m.toNat l ≤ 64
theorem way_of {m : Int} {l : List TxA} {pk s : List Int} (hb : begE m l s = 0) : Way m l pk s := by
 obtain ⟨hp, h8⟩ := beg_zero hb
 obtain ⟨h1, h4, hc⟩ := planE_zero hp
 have hsh : 0 < m.toNat := by omega
 have hg : ∀ n, n < l.length → Good (gX l n) := fun n hn => good_of (chkL_in hc n hn)
 obtain ⟨r1, r2⟩ := run_over pk hsh h8 hg
 have st : ∀ i, i ≤ cntAll m.toNat l → stE m l (runX m.toNat l pk s i) = 0 := fun i hi => inv_st hp (run_inv pk hsh h8 hg i (fun j hj => r1 j (by omega))).1
 have can : ∀ i, i < cntAll m.toNat l → 0 < (canE m l (runX m.toNat l pk s i)).length := fun i hi => by
  have e2 : canE m l (runX m.toNat l pk s i) = canL m.toNat l (runX m.toNat l pk s i) := if_pos (st i (by omega))
  rw [e2]
  have h := some_can (r1 i hi)
  cases e : canL m.toNat l (runX m.toNat l pk s i) with
  | nil => exact absurd e h
  | cons a t => simp
 refine ⟨st, fun i hi => ?_, can, fun i hi x hx => ?_, ?_⟩
 ·have e : ovE m l (runX m.toNat l pk s i) = overB m.toNat l (runX m.toNat l pk s i) := if_pos (st i hi)
  rw [e]
  by_cases h : i = cntAll m.toNat l
  ·rw [decide_eq_true h, h]; exact r2
  ·rw [decide_eq_false h]; exact r1 i (by omega)
 ·have hst := st i (by omega)
  have hcn := can i hi
  have hmem : x ∈ canE m l (runX m.toNat l pk s i) := by
   rw [hx]
   have := plK_lt (pk.drop (min i pk.length)) hcn
   simp [List.getD, this]
  rw [do_is (can_do0 hst hmem)]
  rw [plK_pick pk i _] at hx
  have e2 : canE m l (runX m.toNat l pk s i) = canL m.toNat l (runX m.toNat l pk s i) := if_pos hst
  rw [e2] at hx
  rw [hx]
  rfl
 ·have h := cntAll_le m.toNat l
  have h8' := chkL_len hc
  have : l.length * m.toNat ≤ 8 * 4 := Nat.mul_le_mul h8' (by omega)
  omega
variable (la : Option Addr) (lc : Nat) (l : List TxA) (pa : Option Addr) (pc : Nat) (pk s : List Int)
end Go.Proofs.YtcgpkonfneofdaaGreat
