/-
  
  Conditions: those that each theorem states.
-/
import Derived.Test.YtebjkmknhpgemaaGreatUEithB
set_option maxRecDepth 100000
namespace Go.Proofs.YtebjkmknhpgemaaGreat
open Go.RowKit
theorem gotSteps_ok (a : Option Addr) (k c : Nat) (w : World) : Calls Tryz.prog 141 #[.slice a k c, .int .i64 0] w fun e' w' => e' = .returned (.slice a k c) ∧ w' = w.alloc (.cells #[.int .i64 0] 30) := by
 go_enter Tryz.func141, Tryz.ntmps141
 go_wp2_with fail
 refine (aV [0] _ 1 _ (by simp) rfl (dQ _ _ _ rfl)).mono ?_
 rintro e w' ⟨rfl, rfl⟩
 go_wp2
 go_ret
 exact ⟨rfl, rfl⟩
theorem rC (b : Bool) (w : World) : Calls Tryz.prog 80 #[.bool b, .int .i64 0] w fun e' w' => e' = .returned (.bool b) ∧ w' = w.alloc (.cells #[.int .i64 0] 30) := by
 go_enter Tryz.func80, Tryz.ntmps80
 go_wp2_with fail
 refine (aV [0] _ 1 _ (by simp) rfl (dQ _ _ _ rfl)).mono ?_
 rintro e w' ⟨rfl, rfl⟩
 go_wp2
 go_ret
 exact ⟨rfl, rfl⟩
set_option maxHeartbeats 1000000 in
theorem jI (q : Q4) (w : World) : Calls Tryz.prog 74 #[.agg #[.slice q.sa q.sn q.sc, .slice q.ra q.rn q.rc, .slice q.wa q.wn q.tc, .slice q.va q.vn q.vc], .int .i64 0] w fun e' w' => e' = .returned (.agg #[.slice q.sa q.sn q.sc, .slice q.ra q.rn q.rc, .slice q.wa q.wn q.tc, .slice q.va q.vn q.vc]) ∧ Below w.heap.size w w' := by
 obtain ⟨W, hWe⟩ : ∃ W : World, W = ((w.alloc (.cells #[.slice q.sa q.sn q.sc, .slice q.ra q.rn q.rc, .slice q.wa q.wn q.tc, .slice q.va q.vn q.vc] 29)).alloc (.cells #[.slice none 0 0, .slice none 0 0, .slice none 0 0, .slice none 0 0] 29)) := ⟨_, rfl⟩
 have hW : Hid (Below w.heap.size w W) := by subst hWe; exact aB (aB (Below.refl _ _) _) _
 have p0 : W.cell? ⟨w.heap.size, 0, none⟩ = some (.slice q.sa q.sn q.sc) := by subst hWe; exact aA (aB (Below.refl _ _) _) (aE _ _ 29 _ 0 _ rfl rfl)
 have p1 : W.cell? ⟨w.heap.size, 1, none⟩ = some (.slice q.ra q.rn q.rc) := by subst hWe; exact aA (aB (Below.refl _ _) _) (aE _ _ 29 _ 1 _ rfl rfl)
 have p2 : W.cell? ⟨w.heap.size, 2, none⟩ = some (.slice q.wa q.wn q.tc) := by subst hWe; exact aA (aB (Below.refl _ _) _) (aE _ _ 29 _ 2 _ rfl rfl)
 have p3 : W.cell? ⟨w.heap.size, 3, none⟩ = some (.slice q.va q.vn q.vc) := by subst hWe; exact aA (aB (Below.refl _ _) _) (aE _ _ 29 _ 3 _ rfl rfl)
 have r0 : W.cell? ⟨w.heap.size + 1, 0, none⟩ = some (.slice none 0 0) := by subst hWe; exact aE _ _ 29 _ 0 _ (by simp) rfl
 have r1 : W.cell? ⟨w.heap.size + 1, 1, none⟩ = some (.slice none 0 0) := by subst hWe; exact aE _ _ 29 _ 1 _ (by simp) rfl
 have r2 : W.cell? ⟨w.heap.size + 1, 2, none⟩ = some (.slice none 0 0) := by subst hWe; exact aE _ _ 29 _ 2 _ (by simp) rfl
 have r3 : W.cell? ⟨w.heap.size + 1, 3, none⟩ = some (.slice none 0 0) := by subst hWe; exact aE _ _ 29 _ 3 _ (by simp) rfl
 have rf : ∀ j, W.frozen? ⟨w.heap.size + 1, j, none⟩ = false := by subst hWe; exact fun j => aT _ _ 29 _ j (by simp)
 have sz : Hid (W.heap.size = w.heap.size + 2) := by subst hWe; show _ = _; simp
 have HWe : Hid (W = _) := hWe
 clear hWe
 go_enter Tryz.func74, Tryz.ntmps74
 go_upto_region 1 with fail
 rw [← HWe.out]
 clear HWe
 go_wp2_with fail
 refine (aV [0] _ 1 _ (by simp) rfl (dQ _ _ _ rfl)).mono ?_
 rintro e w' ⟨rfl, rfl⟩
 have gA : Below W.heap.size W (W.alloc (.cells #[.int .i64 0] 30)) := aB (Below.refl _ _) _
 have p0 := aA gA p0
 have p1 := aA gA p1
 have p2 := aA gA p2
 have p3 := aA gA p3
 have r0 := aA gA r0
 have r1 := aA gA r1
 have r2 := aA gA r2
 have r3 := aA gA r3
 have rf : ∀ j, (W.alloc (.cells #[.int .i64 0] 30)).frozen? ⟨w.heap.size + 1, j, none⟩ = false := fun j => (gA.frozen (p := ⟨w.heap.size + 1, j, none⟩) (by have := sz.out; show w.heap.size + 1 < _; omega)).trans (rf j)
 have BF : Hid (Below w.heap.size w (W.alloc (.cells #[.int .i64 0] 30))) := aC hW.out gA
 clear gA
 generalize W.alloc (.cells #[.int .i64 0] 30) = V at *
 obtain ⟨x0, x1, x2, x3⟩ := kZ q r0 r1 r2 r3
 have FB : Hid (Below w.heap.size w ((((V.setCell ⟨w.heap.size + 1, 0, none⟩ (.slice q.sa q.sn q.sc)).setCell ⟨w.heap.size + 1, 1, none⟩ (.slice q.ra q.rn q.rc)).setCell ⟨w.heap.size + 1, 2, none⟩ (.slice q.wa q.wn q.tc)).setCell ⟨w.heap.size + 1, 3, none⟩ (.slice q.va q.vn q.vc))) := aG (aG (aG (aG BF.out (by simp) _) (by simp) _) (by simp) _) (by simp) _
 go_wp2_with fail
 refine bodyPost_ret (v := .agg #[.slice q.sa q.sn q.sc, .slice q.ra q.rn q.rc, .slice q.wa q.wn q.tc, .slice q.va q.vn q.vc]) (by simp [results, Tryz.results74, go_sem, x0, x1, x2, x3]) rfl ⟨rfl, FB.out⟩
def mpE (n : Nat) : Int := if 200 < n then 2 else 0
theorem jV (a : Option Addr) (n c : Nat) (w : World) : Calls Tryz.prog 75 #[.slice a n c] w fun e w' => e = .returned (.int .i64 (mpE n)) ∧ w' = w := by
 by_cases h : 200 < n
 ·have e : mpE n = 2 := if_pos h
  have h' : (200 : Int) < (n : Int) := by omega
  rw [e]
  clear e h
  go_enter Tryz.func75, Tryz.ntmps75
  go_wp2
  go_ret
  exact ⟨rfl, rfl⟩
 ·have e : mpE n = 0 := if_neg h
  have h' : ¬ (200 : Int) < (n : Int) := by omega
  rw [e]
  clear e h
  go_enter Tryz.func75, Tryz.ntmps75
  go_wp2
  go_ret
  exact ⟨rfl, rfl⟩
def jU (pk : List Int) (c : Nat) : Nat := if pk.length = 0 then 0 else chK (pk.getD 0 0) c
theorem plK_lt (pk : List Int) {c : Nat} (h : 0 < c) : jU pk c < c := by
 unfold jU
 split
 ·exact h
 ·exact chK_lt _ h
theorem placeOf_any (pa : Option Addr) (pc : Nat) (pk : List Int) (c : Nat) (w : World) (hc : 0 < c) (hc' : c ≤ 100) (hp : IsInts w pa pk) (hw : ∀ i, i < pk.length → (Lit.int .i64 (pk.getD i 0)).wf = true) (hl : pk.length ≤ maxLen) :
  Calls Tryz.prog 142 #[.int .i64 c, .slice pa pk.length pc] w fun e w' => e = .returned (.int .i64 (jU pk c : Nat)) ∧ w' = w := by
 unfold maxLen at hl
 by_cases h0 : pk.length = 0
 ·have e : jU pk c = 0 := if_pos h0
  rw [e, h0]
  clear hp hw e h0 hl
  go_enter Tryz.func142, Tryz.ntmps142
  go_wp2
  go_ret
  exact ⟨rfl, rfl⟩
 ·have e : jU pk c = chK (pk.getD 0 0) c := if_neg h0
  rw [e]
  obtain ⟨b, off, ea, _, d⟩ := hp 0 (by omega)
  obtain ⟨x1, x2⟩ := pO (hw 0 (by omega))
  subst ea
  rw [Nat.add_zero] at d
  have hb : ((pk.length : Int) == 0) = false := by
   rw [beq_eq_false_iff_ne]
   omega
  have hpos : (0 : Int) < (pk.length : Int) := by omega
  generalize pk.getD 0 0 = x at *
  generalize pk.length = n at *
  clear hp hw e h0
  by_cases hx : x < 0
  ·have h1 : 0 ≤ (-(x + 1)) % (c : Int) := Int.emod_nonneg _ (by omega)
   have e0 : chK x c = ((-(x + 1)) % (c : Int)).toNat := if_pos hx
   rw [e0]
   generalize hk : ((-(x + 1)) % (c : Int)).toNat = K
   go_enter Tryz.func142, Tryz.ntmps142
   go_wp2
   go_ret
   refine ⟨?_, rfl⟩
   show Ending.returned (Value.int .i64 (-(x + 1).tmod ↑c)) = _
   rw [← hk, Int.toNat_of_nonneg h1, ← Int.neg_tmod, Int.tmod_eq_emod_of_nonneg (by omega)]
  ·have h1 : 0 ≤ x % (c : Int) := Int.emod_nonneg _ (by omega)
   have e0 : chK x c = (x % (c : Int)).toNat := if_neg hx
   rw [e0]
   generalize hk : (x % (c : Int)).toNat = K
   go_enter Tryz.func142, Tryz.ntmps142
   go_wp2
   go_ret
   refine ⟨?_, rfl⟩
   show Ending.returned (Value.int .i64 (x % ↑c)) = _
   rw [← hk, Int.toNat_of_nonneg h1]
end Go.Proofs.YtebjkmknhpgemaaGreat
namespace Go.Proofs.YtebjkmknhpgemaaGreat
open Go.RowKit
theorem aO {w : World} {R b i : Nat} {q : Q4} {u : Value} (hne : R ≠ b) (h : w.cell? ⟨b, i, none⟩ = some u) : ((((w.setCell ⟨R, 0, none⟩ (.slice q.sa q.sn q.sc)).setCell ⟨R, 1, none⟩ (.slice q.ra q.rn q.rc)).setCell ⟨R, 2, none⟩ (.slice q.wa q.wn q.tc)).setCell ⟨R, 3, none⟩ (.slice q.va q.vn q.vc)).cell? ⟨b, i, none⟩ = some u := by
 rw [World.cell?_setCell_far _ _ _ _ hne, World.cell?_setCell_far _ _ _ _ hne, World.cell?_setCell_far _ _ _ _ hne, World.cell?_setCell_far _ _ _ _ hne]
 exact h
variable (la : Option Addr) (lc : Nat) (l : List TxA) (pa : Option Addr) (pc : Nat) (pk : List Int)
set_option maxHeartbeats 4000000 in
theorem next_any (m : Int) (q : Q4) (S : SA) (w : World) (hl : IsTxs w la l) (hq : StaQ S q w) (hp : IsInts w pa pk) (hw : ∀ i, i < pk.length → (Lit.int .i64 (pk.getD i 0)).wf = true) (hm : pk.length ≤ maxLen) (hst : eF m l S = 0) (hov : 0 < (bO m l S).length) :
  Calls Tryz.prog 115 #[.agg #[.int .i64 m, .slice la l.length lc], .agg #[.slice q.sa q.sn q.sc, .slice q.ra q.rn q.rc, .slice q.wa q.wn q.tc, .slice q.va q.vn q.vc], .slice pa pk.length pc] w fun e w' => ∃ q' : Q4, e = .returned (.agg #[.slice q'.sa q'.sn q'.sc, .slice q'.ra q'.rn q'.rc, .slice q'.wa q'.wn q'.tc, .slice q'.va q'.vn q'.vc]) ∧ StaF w.heap.size (doS m l S (((bO m l S).getD (jU pk (bO m l S).length) (0, 0, 0)).1 : Nat) (((bO m l S).getD (jU pk (bO m l S).length) (0, 0, 0)).2.1 : Nat) (((bO m l S).getD (jU pk (bO m l S).length) (0, 0, 0)).2.2 : Nat)) q' w' ∧ Below w.heap.size w w' := by
 obtain ⟨W, hWe⟩ : ∃ W : World, W = (((w.alloc (.cells #[.int .i64 m, .slice la l.length lc] 24)).alloc (.cells #[.slice q.sa q.sn q.sc, .slice q.ra q.rn q.rc, .slice q.wa q.wn q.tc, .slice q.va q.vn q.vc] 29)).alloc (.cells #[.slice none 0 0, .slice none 0 0, .slice none 0 0, .slice none 0 0] 29)) := ⟨_, rfl⟩
 have hW : Hid (Below w.heap.size w W) := by subst hWe; exact (aB (aB (aB (Below.refl _ _) _) _) _)
 have sz : Hid (W.heap.size = w.heap.size + 3) := by subst hWe; show _ = _; simp
 have p0 : W.cell? ⟨w.heap.size, 0, none⟩ = some (.int .i64 m) := by subst hWe; exact aA (aB (aB (Below.refl _ _) _) _) (aE _ _ 24 _ 0 _ (by first | rfl | simp) rfl)
 have p1 : W.cell? ⟨w.heap.size, 1, none⟩ = some (.slice la l.length lc) := by subst hWe; exact aA (aB (aB (Below.refl _ _) _) _) (aE _ _ 24 _ 1 _ (by first | rfl | simp) rfl)
 have k0 : W.cell? ⟨w.heap.size + 1, 0, none⟩ = some (.slice q.sa q.sn q.sc) := by subst hWe; exact aA (aB (Below.refl _ _) _) (aE _ _ 29 _ 0 _ (by first | rfl | simp) rfl)
 have k1 : W.cell? ⟨w.heap.size + 1, 1, none⟩ = some (.slice q.ra q.rn q.rc) := by subst hWe; exact aA (aB (Below.refl _ _) _) (aE _ _ 29 _ 1 _ (by first | rfl | simp) rfl)
 have k2 : W.cell? ⟨w.heap.size + 1, 2, none⟩ = some (.slice q.wa q.wn q.tc) := by subst hWe; exact aA (aB (Below.refl _ _) _) (aE _ _ 29 _ 2 _ (by first | rfl | simp) rfl)
 have k3 : W.cell? ⟨w.heap.size + 1, 3, none⟩ = some (.slice q.va q.vn q.vc) := by subst hWe; exact aA (aB (Below.refl _ _) _) (aE _ _ 29 _ 3 _ (by first | rfl | simp) rfl)
 have s0 : W.cell? ⟨w.heap.size + 2, 0, none⟩ = some (.slice none 0 0) := by subst hWe; exact aA (Below.refl _ _) (aE _ _ 29 _ 0 _ (by first | rfl | simp) rfl)
 have s1 : W.cell? ⟨w.heap.size + 2, 1, none⟩ = some (.slice none 0 0) := by subst hWe; exact aA (Below.refl _ _) (aE _ _ 29 _ 1 _ (by first | rfl | simp) rfl)
 have s2 : W.cell? ⟨w.heap.size + 2, 2, none⟩ = some (.slice none 0 0) := by subst hWe; exact aA (Below.refl _ _) (aE _ _ 29 _ 2 _ (by first | rfl | simp) rfl)
 have s3 : W.cell? ⟨w.heap.size + 2, 3, none⟩ = some (.slice none 0 0) := by subst hWe; exact aA (Below.refl _ _) (aE _ _ 29 _ 3 _ (by first | rfl | simp) rfl)
 have SF : Hid (∀ j, W.frozen? ⟨w.heap.size + 2, j, none⟩ = false) := by subst hWe; exact fun j => aT _ _ 29 _ j (by simp)
 have KEEP : Hid (∀ w', Below W.heap.size W w' → w'.cell? ⟨w.heap.size, 0, none⟩ = some (.int .i64 m) ∧ w'.cell? ⟨w.heap.size, 1, none⟩ = some (.slice la l.length lc) ∧ w'.cell? ⟨w.heap.size + 1, 0, none⟩ = some (.slice q.sa q.sn q.sc) ∧ w'.cell? ⟨w.heap.size + 1, 1, none⟩ = some (.slice q.ra q.rn q.rc) ∧ w'.cell? ⟨w.heap.size + 1, 2, none⟩ = some (.slice q.wa q.wn q.tc) ∧ w'.cell? ⟨w.heap.size + 1, 3, none⟩ = some (.slice q.va q.vn q.vc) ∧ w'.cell? ⟨w.heap.size + 2, 0, none⟩ = some (.slice none 0 0) ∧ w'.cell? ⟨w.heap.size + 2, 1, none⟩ = some (.slice none 0 0) ∧ w'.cell? ⟨w.heap.size + 2, 2, none⟩ = some (.slice none 0 0) ∧ w'.cell? ⟨w.heap.size + 2, 3, none⟩ = some (.slice none 0 0)) := fun w' hb => ⟨aA hb p0, aA hb p1, aA hb k0, aA hb k1, aA hb k2, aA hb k3, aA hb s0, aA hb s1, aA hb s2, aA hb s3⟩
 have CN : Hid (Calls Tryz.prog 24 #[.agg #[.int .i64 m, .slice la l.length lc], .agg #[.slice q.sa q.sn q.sc, .slice q.ra q.rn q.rc, .slice q.wa q.wn q.tc, .slice q.va q.vn q.vc]] W fun e w' => ∃ a c, e = .returned (.tuple #[.slice a (bO m l S).length c, .int .i64 0]) ∧ eE w' a (bO m l S) ∧ Below W.heap.size W w') := by
  have h := can_q (m := m) (c := lc) (hl.below hW.out) (hq.below hW.out)
  rw [hst] at h
  exact h
 have hL64 : (bO m l S).length ≤ 64 := by
  have e2 : bO m l S = bD m.toNat l S := if_pos hst
  obtain ⟨sh, rfl, _, h4, hc, _⟩ := dL hst
  rw [e2]
  exact oY _ _ _ (dC hc) (by simpa using h4)
 have hci := plK_lt pk hov
 have hdo : doE m l S (((bO m l S).getD (jU pk (bO m l S).length) (0, 0, 0)).1 : Nat) (((bO m l S).getD (jU pk (bO m l S).length) (0, 0, 0)).2.1 : Nat) (((bO m l S).getD (jU pk (bO m l S).length) (0, 0, 0)).2.2 : Nat) = 0 := can_do0 hst (by simp [List.getD, hci])
 have CD : Hid (∀ w', Below W.heap.size W w' → Calls Tryz.prog 26 #[.agg #[.int .i64 m, .slice la l.length lc], .agg #[.slice q.sa q.sn q.sc, .slice q.ra q.rn q.rc, .slice q.wa q.wn q.tc, .slice q.va q.vn q.vc], .agg #[.int .i64 (((bO m l S).getD (jU pk (bO m l S).length) (0, 0, 0)).1 : Nat), .int .i64 (((bO m l S).getD (jU pk (bO m l S).length) (0, 0, 0)).2.1 : Nat), .int .i64 (((bO m l S).getD (jU pk (bO m l S).length) (0, 0, 0)).2.2 : Nat)]] w' fun e w'' => ∃ q' : Q4, e = .returned (.tuple #[.agg #[.slice q'.sa q'.sn q'.sc, .slice q'.ra q'.rn q'.rc, .slice q'.wa q'.wn q'.tc, .slice q'.va q'.vn q'.vc], .int .i64 0]) ∧ StaF w'.heap.size (doS m l S (((bO m l S).getD (jU pk (bO m l S).length) (0, 0, 0)).1 : Nat) (((bO m l S).getD (jU pk (bO m l S).length) (0, 0, 0)).2.1 : Nat) (((bO m l S).getD (jU pk (bO m l S).length) (0, 0, 0)).2.2 : Nat)) q' w'' ∧ Below w'.heap.size w' w'') := fun w' hb => by
  have h := do_q (m := m) (c := lc) (((bO m l S).getD (jU pk (bO m l S).length) (0, 0, 0)).1 : Nat) (((bO m l S).getD (jU pk (bO m l S).length) (0, 0, 0)).2.1 : Nat) (((bO m l S).getD (jU pk (bO m l S).length) (0, 0, 0)).2.2 : Nat) ((hl.below hW.out).below hb) ((hq.below hW.out).below hb)
  rw [hdo] at h
  exact h
 have CP : Hid (∀ w', Below W.heap.size W w' → Calls Tryz.prog 142 #[.int .i64 (bO m l S).length, .slice pa pk.length pc] w' fun e w'' => e = .returned (.int .i64 (jU pk (bO m l S).length : Nat)) ∧ w'' = w') := fun w' hb => placeOf_any pa pc pk _ w' hov (by omega) ((hp.below hW.out).below hb) hw hm
 clear hl hq hp hw hm hst hdo p0 p1 k0 k1 k2 k3 s0 s1 s2 s3
 generalize doS m l S (((bO m l S).getD (jU pk (bO m l S).length) (0, 0, 0)).1 : Nat) (((bO m l S).getD (jU pk (bO m l S).length) (0, 0, 0)).2.1 : Nat) (((bO m l S).getD (jU pk (bO m l S).length) (0, 0, 0)).2.2 : Nat) = S5 at *
 generalize bO m l S = L at *
 have HWe : Hid (W = _) := hWe
 clear hWe
 go_enter Tryz.func115, Tryz.ntmps115
 go_upto_region 1 with fail
 rw [← HWe.out]
 clear HWe
 obtain ⟨p0, p1, k0, k1, k2, k3, s0, s1, s2, s3⟩ := KEEP.out W (Below.refl _ _)
 go_wp2_with fail
 refine CN.out.mono ?_
 rintro e w1 ⟨a, c, rfl, hsp, hb1⟩
 clear p0 p1 k0 k1 k2 k3 s0 s1 s2 s3 CN
 go_wp2_with fail
 refine (gotSteps_ok _ _ _ _).mono ?_
 rintro e w2 ⟨rfl, rfl⟩
 have gA : Below w1.heap.size w1 (w1.alloc (.cells #[.int .i64 0] 30)) := aB (Below.refl _ _) _
 have BV : Hid (Below W.heap.size W (w1.alloc (.cells #[.int .i64 0] 30))) := aC hb1 gA
 obtain ⟨sb, so, es, _, c0', c1', c2'⟩ := hsp (jU pk L.length) hci
 subst es
 have c0 := aA gA c0'
 have c1 := aA gA c1'
 have c2 := aA gA c2'
 clear hb1 gA hsp c0' c1' c2'
 generalize ((L.getD (jU pk L.length) (0, 0, 0)).1 : Nat) = x1 at *
 generalize ((L.getD (jU pk L.length) (0, 0, 0)).2.1 : Nat) = x2 at *
 generalize ((L.getD (jU pk L.length) (0, 0, 0)).2.2 : Nat) = x3 at *
 go_upto_region 2 with fail
 generalize (w1.alloc (.cells #[.int .i64 0] 30)) = V at *
 obtain ⟨p0, p1, k0, k1, k2, k3, s0, s1, s2, s3⟩ := KEEP.out V BV.out
 have KS : Hid (∀ w', Below V.heap.size V w' → w'.cell? ⟨w.heap.size, 0, none⟩ = some (.int .i64 m) ∧ w'.cell? ⟨w.heap.size, 1, none⟩ = some (.slice la l.length lc) ∧ w'.cell? ⟨w.heap.size + 1, 0, none⟩ = some (.slice q.sa q.sn q.sc) ∧ w'.cell? ⟨w.heap.size + 1, 1, none⟩ = some (.slice q.ra q.rn q.rc) ∧ w'.cell? ⟨w.heap.size + 1, 2, none⟩ = some (.slice q.wa q.wn q.tc) ∧ w'.cell? ⟨w.heap.size + 1, 3, none⟩ = some (.slice q.va q.vn q.vc)) := fun w' hb => ⟨aA hb p0, aA hb p1, aA hb k0, aA hb k1, aA hb k2, aA hb k3⟩
 clear p0 p1 k0 k1 k2 k3 s0 s1 s2 s3
 refine wp_region_held_drew (S := (fun w' => w'.cell? ⟨w.heap.size, 0, none⟩ = some (.int .i64 m) ∧ w'.cell? ⟨w.heap.size, 1, none⟩ = some (.slice la l.length lc) ∧ w'.cell? ⟨w.heap.size + 1, 0, none⟩ = some (.slice q.sa q.sn q.sc) ∧ w'.cell? ⟨w.heap.size + 1, 1, none⟩ = some (.slice q.ra q.rn q.rc) ∧ w'.cell? ⟨w.heap.size + 1, 2, none⟩ = some (.slice q.wa q.wn q.tc) ∧ w'.cell? ⟨w.heap.size + 1, 3, none⟩ = some (.slice q.va q.vn q.vc))) (by kernel_rfl) ?_ (fun hHeld => ?_)
 ·refine KS.out _ ?_
  exact aD (Below.refl _ _)
 refine tk (i := 0) (oi := { dst := some 14, op := .load 24 (.tmp 3), type := 24, pos := "play.go:56", after := #[], guard := none }) (v := ?_) rfl (by kernel_rfl) (by kernel_rfl) (by kernel_rfl) (fun _ _ _ h => h) (by rfl) (by assumption) ?_ ?_; rotate_left; focus (intro w hSw; go_simp; first | done | with_reducible rfl)
 try simp only [Act.put, List.setIfInBounds_toArray, List.set_cons_zero, List.set_cons_succ]
 refine tk (i := 1) (oi := { dst := some 15, op := .load 29 (.tmp 4), type := 29, pos := "play.go:56", after := #[], guard := none }) (v := ?_) rfl (by kernel_rfl) (by kernel_rfl) (by kernel_rfl) (fun _ _ _ h => h) (by rfl) (by assumption) ?_ ?_; rotate_left; focus (intro w hSw; go_simp; first | done | with_reducible rfl)
 try simp only [Act.put, List.setIfInBounds_toArray, List.set_cons_zero, List.set_cons_succ]
 refine tk (i := 2) (oi := { dst := some 16, op := .move (.tmp 7), type := 43, pos := "play.go:56", after := #[], guard := none }) (v := ?_) rfl (by kernel_rfl) (by kernel_rfl) (by kernel_rfl) (fun _ _ _ h => h) (by rfl) (by assumption) ?_ ?_; rotate_left; focus (intro w hSw; go_simp; first | done | with_reducible rfl)
 try simp only [Act.put, List.setIfInBounds_toArray, List.set_cons_zero, List.set_cons_succ]
 refine tk (i := 3) (oi := { dst := some 17, op := .move (.tmp 7), type := 43, pos := "play.go:56", after := #[], guard := none }) (v := ?_) rfl (by kernel_rfl) (by kernel_rfl) (by kernel_rfl) (fun _ _ _ h => h) (by rfl) (by assumption) ?_ ?_; rotate_left; focus (intro w hSw; go_simp; first | done | with_reducible rfl)
 try simp only [Act.put, List.setIfInBounds_toArray, List.set_cons_zero, List.set_cons_succ]
 refine tk (i := 4) (oi := { dst := some 18, op := .call { callee := .builtin .len, args := #[.tmp 17], argTypes := #[43] }, type := 3, pos := "play.go:56", after := #[{ on := 3, ground := .data }], guard := none }) (v := ?_) rfl (by kernel_rfl) (by kernel_rfl) (by kernel_rfl) (fun _ _ _ h => h) (by rfl) (by assumption) ?_ ?_; rotate_left; focus (intro w hSw; go_simp; first | done | with_reducible rfl)
 try simp only [Act.put, List.setIfInBounds_toArray, List.set_cons_zero, List.set_cons_succ]
 refine tk (i := 5) (oi := { dst := some 19, op := .move (.tmp 2), type := 25, pos := "play.go:56", after := #[], guard := none }) (v := ?_) rfl (by kernel_rfl) (by kernel_rfl) (by kernel_rfl) (fun _ _ _ h => h) (by rfl) (by assumption) ?_ ?_; rotate_left; focus (intro w hSw; go_simp; first | done | with_reducible rfl)
 try simp only [Act.put, List.setIfInBounds_toArray, List.set_cons_zero, List.set_cons_succ]
 refine wpAnyH_ready (rs := [6]) (by kernel_rfl) (by simp) ?_
 refine AllReadyH.cons (o := { dst := some 20, op := .call { callee := .value (.func 142), args := #[.tmp 18, .tmp 19], argTypes := #[3, 25] }, type := 3, pos := "play.go:56", after := #[{ on := 4, ground := .data }, { on := 5, ground := .data }], guard := none }) rfl (fun K hK => ?_) AllReadyH.nil
 go_simp
 go_wp2_with (go_at_call 142; refine (CP.out _ (aC BV.out (aD (Below.refl _ _)))).mono ?_; rintro e w3 ⟨rfl, e3⟩; have e4 := e3.symm; subst e4)
 skip
 clear hHeld
 refine hK.out _ _ (KS.out _ (aD (Below.refl _ _))) (fun hHeld => ?_)
 clear hK K
 refine tk (i := 7) (oi := { dst := some 21, op := .indexAddr 43 (.tmp 16) (.tmp 20), type := 0, pos := "play.go:56", after := #[{ on := 2, ground := .data }, { on := 6, ground := .data }], guard := none }) (v := ?_) rfl (by kernel_rfl) (by kernel_rfl) (by kernel_rfl) (fun _ _ _ h => h) (by rfl) (by assumption) ?_ ?_; rotate_left; focus (intro w hSw; go_simp; first | done | with_reducible rfl)
 try simp only [Act.put, List.setIfInBounds_toArray, List.set_cons_zero, List.set_cons_succ]
 refine wpAnyH_ready (rs := [8]) (by kernel_rfl) (by simp) ?_
 refine AllReadyH.cons (o := { dst := some 22, op := .load 48 (.tmp 21), type := 48, pos := "play.go:56", after := #[{ on := 7, ground := .data }], guard := none }) rfl (fun K hK => ?_) AllReadyH.nil
 go_simp
 skip
 clear hHeld
 refine hK.out _ _ (KS.out _ (aD (Below.refl _ _))) (fun hHeld => ?_)
 clear hK K
 refine wpAnyH_ready (rs := [9]) (by kernel_rfl) (by simp) ?_
 refine AllReadyH.cons (o := { dst := some 23, op := .call { callee := .value (.func 26), args := #[.tmp 14, .tmp 15, .tmp 22], argTypes := #[24, 29, 48] }, type := 31, pos := "play.go:56", after := #[{ on := 0, ground := .data }, { on := 1, ground := .data }, { on := 8, ground := .data }, { on := 6, ground := .chain }], guard := none }) rfl (fun K hK => ?_) AllReadyH.nil
 go_simp
 go_wp2_with (go_at_call 26; refine (CD.out _ (aC BV.out (aD (Below.refl _ _)))).mono ?_; rintro e w4 ⟨q5, rfl, h5, hb4⟩)
 have B4 : Hid (Below V.heap.size V w4) := aC (aD (Below.refl _ _)) hb4
 clear hHeld
 refine hK.out _ _ (KS.out _ B4.out) (fun hHeld => ?_)
 clear hK K
 refine tk (i := 10) (oi := { dst := some 24, op := .extract (.tmp 23) 0, type := 29, pos := "play.go:56", after := #[{ on := 9, ground := .data }], guard := none }) (v := ?_) rfl (by kernel_rfl) (by kernel_rfl) (by kernel_rfl) (fun _ _ _ h => h) (by rfl) (by assumption) ?_ ?_; rotate_left; focus (intro w hSw; go_simp; first | done | with_reducible rfl)
 try simp only [Act.put, List.setIfInBounds_toArray, List.set_cons_zero, List.set_cons_succ]
 refine tk (i := 11) (oi := { dst := some 25, op := .extract (.tmp 23) 1, type := 30, pos := "play.go:56", after := #[{ on := 9, ground := .data }], guard := none }) (v := ?_) rfl (by kernel_rfl) (by kernel_rfl) (by kernel_rfl) (fun _ _ _ h => h) (by rfl) (by assumption) ?_ ?_; rotate_left; focus (intro w hSw; go_simp; first | done | with_reducible rfl)
 try simp only [Act.put, List.setIfInBounds_toArray, List.set_cons_zero, List.set_cons_succ]
 refine wpAnyH_ready (rs := [12]) (by kernel_rfl) (by simp) ?_
 refine AllReadyH.cons (o := { dst := some 26, op := .call { callee := .value (.func 74), args := #[.tmp 24, .tmp 25], argTypes := #[29, 30] }, type := 29, pos := "play.go:56", after := #[{ on := 10, ground := .data }, { on := 11, ground := .data }, { on := 9, ground := .chain }], guard := none }) rfl (fun K hK => ?_) AllReadyH.nil
 go_simp
 go_wp2_with (go_at_call 74; refine (jI _ _).mono ?_; rintro e w5 ⟨rfl, hb5⟩)
 have B5 : Hid (Below V.heap.size V w5) := aC B4.out hb5
 have BW5 : Hid (Below W.heap.size W w5) := aC BV.out B5.out
 obtain ⟨p0, p1, k0, k1, k2, k3, s0, s1, s2, s3⟩ := KEEP.out w5 BW5.out
 have sf : ∀ j, w5.frozen? ⟨w.heap.size + 2, j, none⟩ = false := fun j => (BW5.out.frozen (p := ⟨w.heap.size + 2, j, none⟩) (by have := sz.out; show w.heap.size + 2 < _; omega)).trans (SF.out j)
 obtain ⟨y0, y1, y2, y3⟩ := kZ q5 s0 s1 s2 s3
 have hlt : w.heap.size + 2 < V.heap.size := by have := sz.out; have := BV.out.size; omega
 have FS : Hid (StaF w.heap.size S5 q5 ((((w5.setCell ⟨w.heap.size + 2, 0, none⟩ (.slice q5.sa q5.sn q5.sc)).setCell ⟨w.heap.size + 2, 1, none⟩ (.slice q5.ra q5.rn q5.rc)).setCell ⟨w.heap.size + 2, 2, none⟩ (.slice q5.wa q5.wn q5.tc)).setCell ⟨w.heap.size + 2, 3, none⟩ (.slice q5.va q5.vn q5.vc))) := (((((h5.low (show V.heap.size ≤ _ from Nat.le_refl _)).below hb5).set _ 0 _ hlt |>.set _ 1 _ hlt).set _ 2 _ hlt).set _ 3 _ hlt).low (by omega)
 have FB : Hid (Below w.heap.size w ((((w5.setCell ⟨w.heap.size + 2, 0, none⟩ (.slice q5.sa q5.sn q5.sc)).setCell ⟨w.heap.size + 2, 1, none⟩ (.slice q5.ra q5.rn q5.rc)).setCell ⟨w.heap.size + 2, 2, none⟩ (.slice q5.wa q5.wn q5.tc)).setCell ⟨w.heap.size + 2, 3, none⟩ (.slice q5.va q5.vn q5.vc))) := aG (aG (aG (aG (aC hW.out BW5.out) (by simp) _) (by simp) _) (by simp) _) (by simp) _
 have PF : Hid (((((w5.setCell ⟨w.heap.size + 2, 0, none⟩ (.slice q5.sa q5.sn q5.sc)).setCell ⟨w.heap.size + 2, 1, none⟩ (.slice q5.ra q5.rn q5.rc)).setCell ⟨w.heap.size + 2, 2, none⟩ (.slice q5.wa q5.wn q5.tc)).setCell ⟨w.heap.size + 2, 3, none⟩ (.slice q5.va q5.vn q5.vc)).cell? ⟨w.heap.size, 0, none⟩ = some (.int .i64 m) ∧ ((((w5.setCell ⟨w.heap.size + 2, 0, none⟩ (.slice q5.sa q5.sn q5.sc)).setCell ⟨w.heap.size + 2, 1, none⟩ (.slice q5.ra q5.rn q5.rc)).setCell ⟨w.heap.size + 2, 2, none⟩ (.slice q5.wa q5.wn q5.tc)).setCell ⟨w.heap.size + 2, 3, none⟩ (.slice q5.va q5.vn q5.vc)).cell? ⟨w.heap.size, 1, none⟩ = some (.slice la l.length lc) ∧ ((((w5.setCell ⟨w.heap.size + 2, 0, none⟩ (.slice q5.sa q5.sn q5.sc)).setCell ⟨w.heap.size + 2, 1, none⟩ (.slice q5.ra q5.rn q5.rc)).setCell ⟨w.heap.size + 2, 2, none⟩ (.slice q5.wa q5.wn q5.tc)).setCell ⟨w.heap.size + 2, 3, none⟩ (.slice q5.va q5.vn q5.vc)).cell? ⟨w.heap.size + 1, 0, none⟩ = some (.slice q.sa q.sn q.sc) ∧ ((((w5.setCell ⟨w.heap.size + 2, 0, none⟩ (.slice q5.sa q5.sn q5.sc)).setCell ⟨w.heap.size + 2, 1, none⟩ (.slice q5.ra q5.rn q5.rc)).setCell ⟨w.heap.size + 2, 2, none⟩ (.slice q5.wa q5.wn q5.tc)).setCell ⟨w.heap.size + 2, 3, none⟩ (.slice q5.va q5.vn q5.vc)).cell? ⟨w.heap.size + 1, 1, none⟩ = some (.slice q.ra q.rn q.rc) ∧ ((((w5.setCell ⟨w.heap.size + 2, 0, none⟩ (.slice q5.sa q5.sn q5.sc)).setCell ⟨w.heap.size + 2, 1, none⟩ (.slice q5.ra q5.rn q5.rc)).setCell ⟨w.heap.size + 2, 2, none⟩ (.slice q5.wa q5.wn q5.tc)).setCell ⟨w.heap.size + 2, 3, none⟩ (.slice q5.va q5.vn q5.vc)).cell? ⟨w.heap.size + 1, 2, none⟩ = some (.slice q.wa q.wn q.tc) ∧ ((((w5.setCell ⟨w.heap.size + 2, 0, none⟩ (.slice q5.sa q5.sn q5.sc)).setCell ⟨w.heap.size + 2, 1, none⟩ (.slice q5.ra q5.rn q5.rc)).setCell ⟨w.heap.size + 2, 2, none⟩ (.slice q5.wa q5.wn q5.tc)).setCell ⟨w.heap.size + 2, 3, none⟩ (.slice q5.va q5.vn q5.vc)).cell? ⟨w.heap.size + 1, 3, none⟩ = some (.slice q.va q.vn q.vc)) := ⟨aO (by omega) p0, aO (by omega) p1, aO (by omega) k0, aO (by omega) k1, aO (by omega) k2, aO (by omega) k3⟩
 clear hHeld
 refine hK.out _ _ (KS.out _ B5.out) (fun hHeld => ?_)
 clear hK K
 refine wpAnyH_ready (rs := [13]) (by kernel_rfl) (by simp) ?_
 refine AllReadyH.cons (o := { dst := none, op := .store 29 (.tmp 6) (.tmp 26), type := 0, pos := "play.go:56", after := #[{ on := 12, ground := .data }, { on := 12, ground := .chain }, { on := 0, ground := .phase }, { on := 1, ground := .phase }, { on := 2, ground := .phase }, { on := 3, ground := .phase }, { on := 4, ground := .phase }, { on := 5, ground := .phase }, { on := 6, ground := .phase }, { on := 7, ground := .phase }, { on := 8, ground := .phase }, { on := 9, ground := .phase }, { on := 10, ground := .phase }, { on := 11, ground := .phase }, { on := 12, ground := .phase }], guard := none }) rfl (fun K hK => ?_) AllReadyH.nil
 go_simp
 skip
 clear hHeld
 refine hK.out _ _ (PF.out) (fun hHeld => ?_)
 clear hK K
 refine wpAnyH_done (by kernel_rfl) ?_ _
 go_wp2
 refine bodyPost_ret (v := .agg #[.slice q5.sa q5.sn q5.sc, .slice q5.ra q5.rn q5.rc, .slice q5.wa q5.wn q5.tc, .slice q5.va q5.vn q5.vc]) (by simp [results, Tryz.results115, go_sem, y0, y1, y2, y3]) rfl ⟨q5, rfl, FS.out, FB.out⟩
end Go.Proofs.YtebjkmknhpgemaaGreat
namespace Go.Proofs.YtebjkmknhpgemaaGreat
open Go.RowKit
theorem chK_pick (x : Int) (c : Nat) : chK x c = if x < 0 then (-(x + 1)).toNat % c else x.toNat % c := by
 have key : ∀ y : Int, 0 ≤ y → (y % (c : Int)).toNat = y.toNat % c := fun y hy => by
  obtain ⟨n, rfl⟩ := Int.eq_ofNat_of_zero_le hy
  rw [← Int.natCast_emod]
  exact Int.toNat_natCast _
 unfold chK
 by_cases h : x < 0
 ·rw [if_pos h, if_pos h]
  exact key _ (by omega)
 ·rw [if_neg h, if_neg h]
  exact key _ (by omega)
theorem plK_pick (pk : List Int) (i c : Nat) : jU (pk.drop (min i pk.length)) c = fK pk i c := by
 unfold jU fK
 by_cases h : i < pk.length
 ·have e : min i pk.length = i := by omega
  have e2 : (pk.drop i).getD 0 0 = pk.getD i 0 := by simp [List.getD]
  rw [e, if_neg (by rw [List.length_drop]; omega), if_pos h, e2, chK_pick _ _]
 ·have e : min i pk.length = pk.length := by omega
  rw [e, if_pos (by simp), if_neg h]
def KO (lo a O : Nat) (S : SA) (q : Q4) (w : World) : Prop := ∀ w' : World, (∀ b, lo ≤ b → (b < a ∨ O < b) → b < w.heap.size → w'.heap[b]? = w.heap[b]?) → w.heap.size ≤ w'.heap.size → StaQ S q w'
theorem KO.sta {lo a O : Nat} {S : SA} {q : Q4} {w : World} (h : KO lo a O S q w) : StaQ S q w := h w (fun _ _ _ _ => rfl) (Nat.le_refl _)
theorem KO.staF {lo a O : Nat} {S : SA} {q : Q4} {w : World} (h : KO lo a O S q w) : StaF lo S q w := fun w' h1 h2 => h w' (fun b hb _ hs => h1 b hb hs) h2
theorem KO.set {lo a O : Nat} {S : SA} {q : Q4} {w : World} (h : KO lo a O S q w) {R : Nat} (ha : a ≤ R) (hR : R ≤ O) (j : Nat) (u : Value) : KO lo a O S q (w.setCell ⟨R, j, none⟩ u) := fun w' h1 h2 => h w' (fun b hl hb hs => (h1 b hl hb (by rw [World.size_setCell]; exact hs)).trans (dN w R j u b (by omega))) (by rw [World.size_setCell] at h2; exact h2)
theorem KO.below {lo a O : Nat} {S : SA} {q : Q4} {w w' : World} (h : KO lo a O S q w) (hb : Below w.heap.size w w') : KO lo a O S q w' := fun w2 h1 h2 => h w2 (fun b hl hO hs => (h1 b hl hO (Nat.lt_of_lt_of_le hs hb.size)).trans (hb.block b hs)) (Nat.le_trans hb.size h2)
theorem StaF.ko {lo lo' a O : Nat} {S : SA} {q : Q4} {w : World} (h : StaF lo' S q w) (hl : lo ≤ lo') (hO : O < lo') : KO lo a O S q w := fun w' h1 h2 => h w' (fun b hb hs => h1 b (by omega) (by omega) hs) h2
theorem StaF.ko0 {lo O : Nat} {S : SA} {q : Q4} {w w' : World} (h : StaF lo S q w) (hb : Below w.heap.size w w') : KO lo w.heap.size O S q w' := fun w2 h1 h2 => h w2 (fun b hl hs => (h1 b hl (Or.inl hs) (Nat.lt_of_lt_of_le hs hb.size)).trans (hb.block b hs)) (Nat.le_trans hb.size h2)
theorem put5 {w : World} {R : Nat} (q : Q4) (n : Int) {u0 u1 u2 u3 u4 : Value} (t0 : w.cell? ⟨R, 0, none⟩ = some u0) (t1 : w.cell? ⟨R, 1, none⟩ = some u1) (t2 : w.cell? ⟨R, 2, none⟩ = some u2) (t3 : w.cell? ⟨R, 3, none⟩ = some u3) (t4 : w.cell? ⟨R, 4, none⟩ = some u4) : (((((w.setCell ⟨R, 0, none⟩ (.slice q.sa q.sn q.sc)).setCell ⟨R, 1, none⟩ (.slice q.ra q.rn q.rc)).setCell ⟨R, 2, none⟩ (.slice q.wa q.wn q.tc)).setCell ⟨R, 3, none⟩ (.slice q.va q.vn q.vc)).setCell ⟨R, 4, none⟩ (.int .i64 n)).cell? ⟨R, 0, none⟩ = some (.slice q.sa q.sn q.sc) ∧ (((((w.setCell ⟨R, 0, none⟩ (.slice q.sa q.sn q.sc)).setCell ⟨R, 1, none⟩ (.slice q.ra q.rn q.rc)).setCell ⟨R, 2, none⟩ (.slice q.wa q.wn q.tc)).setCell ⟨R, 3, none⟩ (.slice q.va q.vn q.vc)).setCell ⟨R, 4, none⟩ (.int .i64 n)).cell? ⟨R, 1, none⟩ = some (.slice q.ra q.rn q.rc) ∧ (((((w.setCell ⟨R, 0, none⟩ (.slice q.sa q.sn q.sc)).setCell ⟨R, 1, none⟩ (.slice q.ra q.rn q.rc)).setCell ⟨R, 2, none⟩ (.slice q.wa q.wn q.tc)).setCell ⟨R, 3, none⟩ (.slice q.va q.vn q.vc)).setCell ⟨R, 4, none⟩ (.int .i64 n)).cell? ⟨R, 2, none⟩ = some (.slice q.wa q.wn q.tc) ∧ (((((w.setCell ⟨R, 0, none⟩ (.slice q.sa q.sn q.sc)).setCell ⟨R, 1, none⟩ (.slice q.ra q.rn q.rc)).setCell ⟨R, 2, none⟩ (.slice q.wa q.wn q.tc)).setCell ⟨R, 3, none⟩ (.slice q.va q.vn q.vc)).setCell ⟨R, 4, none⟩ (.int .i64 n)).cell? ⟨R, 3, none⟩ = some (.slice q.va q.vn q.vc) ∧ (((((w.setCell ⟨R, 0, none⟩ (.slice q.sa q.sn q.sc)).setCell ⟨R, 1, none⟩ (.slice q.ra q.rn q.rc)).setCell ⟨R, 2, none⟩ (.slice q.wa q.wn q.tc)).setCell ⟨R, 3, none⟩ (.slice q.va q.vn q.vc)).setCell ⟨R, 4, none⟩ (.int .i64 n)).cell? ⟨R, 4, none⟩ = some (.int .i64 n) := by
 obtain ⟨y0, y1, y2, y3⟩ := kZ q t0 t1 t2 t3
 exact ⟨aH (by decide) y0, aH (by decide) y1, aH (by decide) y2, aH (by decide) y3, aK (aH (by decide) (aH (by decide) (aH (by decide) (aH (by decide) t4))))⟩
theorem ints_drop {w : World} {b off d : Nat} {pk : List Int} (h : IsInts w (some ⟨b, off, none⟩) pk) : IsInts w (some ⟨b, off + d, none⟩) (pk.drop d) := fun i hi => by
 rw [List.length_drop] at hi
 obtain ⟨b', off', e, hb, hc⟩ := h (d + i) (by omega)
 injection e with e
 injection e with e1 e2
 subst e1 e2
 refine ⟨b, off + d, rfl, hb, ?_⟩
 rw [Nat.add_assoc, hc]
 simp [List.getD]
structure Way (m : Int) (l : List TxA) (pk s : List Int) : Prop where
 st : ∀ i, i ≤ aN m.toNat l → eF m l (aS m.toNat l pk s i) = 0
 ov : ∀ i, i ≤ aN m.toNat l → ovE m l (aS m.toNat l pk s i) = decide (i = aN m.toNat l)
 can : ∀ i, i < aN m.toNat l → 0 < (bO m l (aS m.toNat l pk s i)).length
 nx : ∀ i, i < aN m.toNat l → ∀ x, x = (bO m l (aS m.toNat l pk s i)).getD (jU (pk.drop (min i pk.length)) (bO m l (aS m.toNat l pk s i)).length) (0, 0, 0) → doS m l (aS m.toNat l pk s i) (x.1 : Nat) (x.2.1 : Nat) (x.2.2 : Nat) = aS m.toNat l pk s (i + 1)
 n : aN m.toNat l ≤ 64
theorem lV {m : Int} {l : List TxA} {pk s : List Int} (hb : dX m l s = 0) : Way m l pk s := by
 obtain ⟨hp, h8⟩ := lS hb
 obtain ⟨h1, h4, hc⟩ := aX hp
 have hsh : 0 < m.toNat := by omega
 have hg : ∀ n, n < l.length → Good (gX l n) := fun n hn => hI (cI hc n hn)
 obtain ⟨r1, r2⟩ := run_over pk hsh h8 hg
 have st : ∀ i, i ≤ aN m.toNat l → eF m l (aS m.toNat l pk s i) = 0 := fun i hi => inv_st hp (kY pk hsh h8 hg i (fun j hj => r1 j (by omega))).1
 have can : ∀ i, i < aN m.toNat l → 0 < (bO m l (aS m.toNat l pk s i)).length := fun i hi => by
  have e2 : bO m l (aS m.toNat l pk s i) = bD m.toNat l (aS m.toNat l pk s i) := if_pos (st i (by omega))
  rw [e2]
  have h := some_can (r1 i hi)
  cases e : bD m.toNat l (aS m.toNat l pk s i) with
  | nil => exact absurd e h
  | cons a t => simp
 refine ⟨st, fun i hi => ?_, can, fun i hi x hx => ?_, ?_⟩
 ·have e : ovE m l (aS m.toNat l pk s i) = cD m.toNat l (aS m.toNat l pk s i) := if_pos (st i hi)
  rw [e]
  by_cases h : i = aN m.toNat l
  ·rw [decide_eq_true h, h]; exact r2
  ·rw [decide_eq_false h]; exact r1 i (by omega)
 ·have hst := st i (by omega)
  have hcn := can i hi
  have hmem : x ∈ bO m l (aS m.toNat l pk s i) := by
   rw [hx]
   have := plK_lt (pk.drop (min i pk.length)) hcn
   simp [List.getD, this]
  rw [do_is (can_do0 hst hmem)]
  rw [plK_pick pk i _] at hx
  have e2 : bO m l (aS m.toNat l pk s i) = bD m.toNat l (aS m.toNat l pk s i) := if_pos hst
  rw [e2] at hx
  rw [hx]
  rfl
 ·have h := cntAll_le m.toNat l
  have h8' := dC hc
  have : l.length * m.toNat ≤ 8 * 4 := Nat.mul_le_mul h8' (by omega)
  omega
variable (la : Option Addr) (lc : Nat) (l : List TxA) (pa : Option Addr) (pc : Nat) (pk s : List Int)
end Go.Proofs.YtebjkmknhpgemaaGreat
namespace Go.Proofs.YtebjkmknhpgemaaGreat
open Go.RowKit
variable (la : Option Addr) (lc : Nat) (l : List TxA) (pa : Option Addr) (pc : Nat) (pk s : List Int)
theorem ints_from {w : World} {pa : Option Addr} {pc d : Nat} {pk : List Int} (h : IsInts w pa pk) (hpc : pk.length ≤ pc) (hd : d ≤ pk.length) : IsInts w (if pc = d then pa else Option.map (fun x => x.add d) pa) (pk.drop d) := by
 by_cases e : pc = d
 ·intro i hi
  rw [List.length_drop] at hi
  omega
 ·rw [if_neg e]
  cases pa with
  | none =>
   intro i hi
   rw [List.length_drop] at hi
   obtain ⟨b, off, e, _⟩ := h (d + i) (by omega)
   cases e
  | some p =>
   intro i hi
   obtain ⟨b, off, e, _⟩ := h 0 (by rw [List.length_drop] at hi; omega)
   injection e with e
   subst e
   have h2 := ints_drop (d := d) h i hi
   obtain ⟨b', off', e1, e2, e3⟩ := h2
   refine ⟨b', off', ?_, e2, e3⟩
   rw [← e1]
   by_cases h0 : d = 0
   ·subst h0; rfl
   ·simp [Addr.add, h0]
set_option maxHeartbeats 8000000 in
theorem march_any (m : Int) (q : Q4) (w : World) (hl : IsTxs w la l) (lo : Nat) (hlo : lo ≤ w.heap.size) (hq : StaF lo (nL m l s) q w) (hp : IsInts w pa pk) (hpc : pk.length ≤ pc) (hw : ∀ i, i < pk.length → (Lit.int .i64 (pk.getD i 0)).wf = true) (hm : pk.length ≤ 200) (hb : dX m l s = 0) :
  Calls Tryz.prog 76 #[.agg #[.int .i64 m, .slice la l.length lc], .agg #[.slice q.sa q.sn q.sc, .slice q.ra q.rn q.rc, .slice q.wa q.wn q.tc, .slice q.va q.vn q.vc], .slice pa pk.length pc] w fun e w' => ∃ q' : Q4, e = .returned (.agg #[.slice q'.sa q'.sn q'.sc, .slice q'.ra q'.rn q'.rc, .slice q'.wa q'.wn q'.tc, .slice q'.va q'.vn q'.vc, .int .i64 (aN m.toNat l : Nat)]) ∧ StaF lo (iJ m.toNat l pk s) q' w' ∧ Below w.heap.size w w' := by
 have WAY : Hid (Way m l pk s) := lV hb
 have hN64 := (lV (pk := pk) hb).n
 have HE : Hid (aS m.toNat l pk s 0 = nL m l s) := (if_pos hb).symm
 have WST : Hid (∀ i, i ≤ aN m.toNat l → eF m l (aS m.toNat l pk s i) = 0) := WAY.out.st
 have WOV : Hid (∀ i, i ≤ aN m.toNat l → ovE m l (aS m.toNat l pk s i) = decide (i = aN m.toNat l)) := WAY.out.ov
 have WCAN : Hid (∀ i, i < aN m.toNat l → 0 < (bO m l (aS m.toNat l pk s i)).length) := WAY.out.can
 have WNX : Hid (∀ i, i < aN m.toNat l → ∀ x, x = (bO m l (aS m.toNat l pk s i)).getD (jU (pk.drop (min i pk.length)) (bO m l (aS m.toNat l pk s i)).length) (0, 0, 0) → doS m l (aS m.toNat l pk s i) (x.1 : Nat) (x.2.1 : Nat) (x.2.2 : Nat) = aS m.toNat l pk s (i + 1)) := WAY.out.nx
 clear WAY
 have HEN : Hid (iJ m.toNat l pk s = aS m.toNat l pk s (aN m.toNat l)) := rfl
 obtain ⟨W, hWe⟩ : ∃ W : World, W = (((w.alloc (.cells #[.int .i64 m, .slice la l.length lc] 24)).alloc (.cells #[.slice q.sa q.sn q.sc, .slice q.ra q.rn q.rc, .slice q.wa q.wn q.tc, .slice q.va q.vn q.vc] 29)).alloc (.cells #[.slice none 0 0, .slice none 0 0, .slice none 0 0, .slice none 0 0, .int .i64 0] 107)) := ⟨_, rfl⟩
 have hW : Hid (Below w.heap.size w W) := by subst hWe; exact (aB (aB (aB (Below.refl _ _) _) _) _)
 have sz : Hid (W.heap.size = w.heap.size + 3) := by subst hWe; show _ = _; simp
 have p0 : W.cell? ⟨w.heap.size, 0, none⟩ = some (.int .i64 m) := by subst hWe; exact aA (aB (aB (Below.refl _ _) _) _) (aE _ _ 24 _ 0 _ (by first | rfl | simp) rfl)
 have p1 : W.cell? ⟨w.heap.size, 1, none⟩ = some (.slice la l.length lc) := by subst hWe; exact aA (aB (aB (Below.refl _ _) _) _) (aE _ _ 24 _ 1 _ (by first | rfl | simp) rfl)
 have k0 : W.cell? ⟨w.heap.size + 1, 0, none⟩ = some (.slice q.sa q.sn q.sc) := by subst hWe; exact aA (aB (Below.refl _ _) _) (aE _ _ 29 _ 0 _ (by first | rfl | simp) rfl)
 have k1 : W.cell? ⟨w.heap.size + 1, 1, none⟩ = some (.slice q.ra q.rn q.rc) := by subst hWe; exact aA (aB (Below.refl _ _) _) (aE _ _ 29 _ 1 _ (by first | rfl | simp) rfl)
 have k2 : W.cell? ⟨w.heap.size + 1, 2, none⟩ = some (.slice q.wa q.wn q.tc) := by subst hWe; exact aA (aB (Below.refl _ _) _) (aE _ _ 29 _ 2 _ (by first | rfl | simp) rfl)
 have k3 : W.cell? ⟨w.heap.size + 1, 3, none⟩ = some (.slice q.va q.vn q.vc) := by subst hWe; exact aA (aB (Below.refl _ _) _) (aE _ _ 29 _ 3 _ (by first | rfl | simp) rfl)
 have s0 : W.cell? ⟨w.heap.size + 2, 0, none⟩ = some (.slice none 0 0) := by subst hWe; exact aA (Below.refl _ _) (aE _ _ 107 _ 0 _ (by first | rfl | simp) rfl)
 have s1 : W.cell? ⟨w.heap.size + 2, 1, none⟩ = some (.slice none 0 0) := by subst hWe; exact aA (Below.refl _ _) (aE _ _ 107 _ 1 _ (by first | rfl | simp) rfl)
 have s2 : W.cell? ⟨w.heap.size + 2, 2, none⟩ = some (.slice none 0 0) := by subst hWe; exact aA (Below.refl _ _) (aE _ _ 107 _ 2 _ (by first | rfl | simp) rfl)
 have s3 : W.cell? ⟨w.heap.size + 2, 3, none⟩ = some (.slice none 0 0) := by subst hWe; exact aA (Below.refl _ _) (aE _ _ 107 _ 3 _ (by first | rfl | simp) rfl)
 have s4 : W.cell? ⟨w.heap.size + 2, 4, none⟩ = some (.int .i64 0) := by subst hWe; exact aA (Below.refl _ _) (aE _ _ 107 _ 4 _ (by first | rfl | simp) rfl)
 have SF : Hid (∀ j, W.frozen? ⟨w.heap.size + 2, j, none⟩ = false) := by subst hWe; exact fun j => aT _ _ 107 _ j (by simp)
 have KEEP : Hid (∀ w', Below W.heap.size W w' → w'.cell? ⟨w.heap.size, 0, none⟩ = some (.int .i64 m) ∧ w'.cell? ⟨w.heap.size, 1, none⟩ = some (.slice la l.length lc) ∧ w'.cell? ⟨w.heap.size + 1, 0, none⟩ = some (.slice q.sa q.sn q.sc) ∧ w'.cell? ⟨w.heap.size + 1, 1, none⟩ = some (.slice q.ra q.rn q.rc) ∧ w'.cell? ⟨w.heap.size + 1, 2, none⟩ = some (.slice q.wa q.wn q.tc) ∧ w'.cell? ⟨w.heap.size + 1, 3, none⟩ = some (.slice q.va q.vn q.vc) ∧ w'.cell? ⟨w.heap.size + 2, 0, none⟩ = some (.slice none 0 0) ∧ w'.cell? ⟨w.heap.size + 2, 1, none⟩ = some (.slice none 0 0) ∧ w'.cell? ⟨w.heap.size + 2, 2, none⟩ = some (.slice none 0 0) ∧ w'.cell? ⟨w.heap.size + 2, 3, none⟩ = some (.slice none 0 0) ∧ w'.cell? ⟨w.heap.size + 2, 4, none⟩ = some (.int .i64 0)) := fun w' hb => ⟨aA hb p0, aA hb p1, aA hb k0, aA hb k1, aA hb k2, aA hb k3, aA hb s0, aA hb s1, aA hb s2, aA hb s3, aA hb s4⟩
 have HL : Hid (IsTxs W la l) := hl.below hW.out
 have HP : Hid (IsInts W pa pk) := hp.below hW.out
 have HWF : Hid (∀ i, i < pk.length → (Lit.int .i64 (pk.getD i 0)).wf = true) := hw
 have HM : Hid (pk.length ≤ maxLen) := by show _ ≤ _; unfold maxLen; omega
 have gV : Below W.heap.size W (W.alloc (.cells #[.slice q.sa q.sn q.sc, .slice q.ra q.rn q.rc, .slice q.wa q.wn q.tc, .slice q.va q.vn q.vc, .int .i64 0] 107)) := aB (Below.refl _ _) _
 have K0 : Hid (KO lo w.heap.size W.heap.size (aS m.toNat l pk s 0) q (W.alloc (.cells #[.slice q.sa q.sn q.sc, .slice q.ra q.rn q.rc, .slice q.wa q.wn q.tc, .slice q.va q.vn q.vc, .int .i64 0] 107))) := by
  show KO _ _ _ _ _ _
  rw [HE.out]
  exact hq.ko0 (aC hW.out gV)
 have V0c : Hid ((W.alloc (.cells #[.slice q.sa q.sn q.sc, .slice q.ra q.rn q.rc, .slice q.wa q.wn q.tc, .slice q.va q.vn q.vc, .int .i64 0] 107)).cell? ⟨W.heap.size, 0, none⟩ = some (.slice q.sa q.sn q.sc) ∧ (W.alloc (.cells #[.slice q.sa q.sn q.sc, .slice q.ra q.rn q.rc, .slice q.wa q.wn q.tc, .slice q.va q.vn q.vc, .int .i64 0] 107)).cell? ⟨W.heap.size, 1, none⟩ = some (.slice q.ra q.rn q.rc) ∧ (W.alloc (.cells #[.slice q.sa q.sn q.sc, .slice q.ra q.rn q.rc, .slice q.wa q.wn q.tc, .slice q.va q.vn q.vc, .int .i64 0] 107)).cell? ⟨W.heap.size, 2, none⟩ = some (.slice q.wa q.wn q.tc) ∧ (W.alloc (.cells #[.slice q.sa q.sn q.sc, .slice q.ra q.rn q.rc, .slice q.wa q.wn q.tc, .slice q.va q.vn q.vc, .int .i64 0] 107)).cell? ⟨W.heap.size, 3, none⟩ = some (.slice q.va q.vn q.vc) ∧ (W.alloc (.cells #[.slice q.sa q.sn q.sc, .slice q.ra q.rn q.rc, .slice q.wa q.wn q.tc, .slice q.va q.vn q.vc, .int .i64 0] 107)).cell? ⟨W.heap.size, 4, none⟩ = some (.int .i64 (0 : Nat))) := ⟨aE _ _ 107 _ 0 _ rfl rfl, aE _ _ 107 _ 1 _ rfl rfl, aE _ _ 107 _ 2 _ rfl rfl, aE _ _ 107 _ 3 _ rfl rfl, aE _ _ 107 _ 4 _ rfl rfl⟩
 have V0f : Hid (∀ j, (W.alloc (.cells #[.slice q.sa q.sn q.sc, .slice q.ra q.rn q.rc, .slice q.wa q.wn q.tc, .slice q.va q.vn q.vc, .int .i64 0] 107)).frozen? ⟨W.heap.size, j, none⟩ = false) := fun j => aT _ _ 107 _ j rfl
 have BV0 : Hid (Below W.heap.size W (W.alloc (.cells #[.slice q.sa q.sn q.sc, .slice q.ra q.rn q.rc, .slice q.wa q.wn q.tc, .slice q.va q.vn q.vc, .int .i64 0] 107))) := gV
 clear hl hq hp hw hb gV p0 p1 k0 k1 k2 k3 s0 s1 s2 s3 s4 HE
 have HWe : Hid (W = _) := hWe
 clear hWe
 generalize hNe : aN m.toNat l = N at *
 go_enter Tryz.func76, Tryz.ntmps76
 go_upto_region 1 with fail
 rw [← HWe.out]
 clear HWe
 obtain ⟨p0, p1, k0, k1, k2, k3, s0, s1, s2, s3, s4⟩ := KEEP.out W (Below.refl _ _)
 go_upto_region 2 with fail
 clear p0 p1 k0 k1 k2 k3 s0 s1 s2 s3 s4
 generalize (W.alloc (.cells #[.slice q.sa q.sn q.sc, .slice q.ra q.rn q.rc, .slice q.wa q.wn q.tc, .slice q.va q.vn q.vc, .int .i64 0] 107)) = V at *
 have hOW : Hid (W.heap.size ≤ W.heap.size) := Nat.le_refl _
 have hOP : Hid (W.heap.size ≠ w.heap.size) := by show _ ≠ _; have := sz.out; omega
 have hOP2 : Hid (w.heap.size + 2 < W.heap.size) := by show _ < _; have := sz.out; omega
 go_loopw [] (fun wr => ∃ (i : Nat) (q : Q4), i ≤ N ∧ Hid (wr.cell? ⟨W.heap.size, 0, none⟩ = some (.slice q.sa q.sn q.sc) ∧ wr.cell? ⟨W.heap.size, 1, none⟩ = some (.slice q.ra q.rn q.rc) ∧ wr.cell? ⟨W.heap.size, 2, none⟩ = some (.slice q.wa q.wn q.tc) ∧ wr.cell? ⟨W.heap.size, 3, none⟩ = some (.slice q.va q.vn q.vc) ∧ wr.cell? ⟨W.heap.size, 4, none⟩ = some (.int .i64 (i : Nat))) ∧ Hid (∀ j, wr.frozen? ⟨W.heap.size, j, none⟩ = false) ∧ Hid (KO lo w.heap.size W.heap.size (aS m.toNat l pk s i) q wr) ∧ Hid (Below W.heap.size W wr)) (fun wr => N - (intOf ((wr.cell? ⟨W.heap.size, 4, none⟩).getD undef)).toNat)
 case atStart => exact ⟨0, q, Nat.zero_le _, V0c, V0f, K0, BV0⟩
 case round =>
  clear V0c V0f K0 BV0
  obtain ⟨i, q, hi, OCC, OF, HK, hB⟩ := hrel
  obtain ⟨o0, o1, o2, o3, o4⟩ := OCC.out
  have of_ := OF.out
  obtain ⟨p0, p1, k0, k1, k2, k3, s0, s1, s2, s3, s4⟩ := KEEP.out wr hB.out
  have hOlt : W.heap.size < wr.heap.size := World.block_lt_of_cell? wr ⟨W.heap.size, 0, none⟩ o0
  have hst := WST.out i hi
  have CV : Hid (Calls Tryz.prog 15 #[.agg #[.int .i64 m, .slice la l.length lc], .agg #[.slice q.sa q.sn q.sc, .slice q.ra q.rn q.rc, .slice q.wa q.wn q.tc, .slice q.va q.vn q.vc]] wr fun e w' => e = .returned (.tuple #[.bool (decide (i = N)), .int .i64 0]) ∧ Below wr.heap.size wr w') := by
   have h := over_q (m := m) (c := lc) (HL.out.below hB.out) HK.out.sta
   rw [hst, WOV.out i hi] at h
   exact h
  clear hst
  go_wp2_with fail
  refine CV.out.mono ?_
  rintro e w1 ⟨rfl, hb1⟩
  go_wp2_with fail
  refine (rC _ _).mono ?_
  rintro e w2 ⟨rfl, rfl⟩
  have gA : Below w1.heap.size w1 (w1.alloc (.cells #[.int .i64 0] 30)) := aB (Below.refl _ _) _
  have hb2 : Below wr.heap.size wr (w1.alloc (.cells #[.int .i64 0] 30)) := aC hb1 gA
  have HK2 : Hid (KO lo w.heap.size W.heap.size (aS m.toNat l pk s i) q (w1.alloc (.cells #[.int .i64 0] 30))) := HK.out.below hb2
  have B2 : Hid (Below W.heap.size W (w1.alloc (.cells #[.int .i64 0] 30))) := aC hB.out hb2
  have o0' := aA hb2 o0
  have o1' := aA hb2 o1
  have o2' := aA hb2 o2
  have o3' := aA hb2 o3
  have o4' := aA hb2 o4
  have of2 : ∀ j, (w1.alloc (.cells #[.int .i64 0] 30)).frozen? ⟨W.heap.size, j, none⟩ = false := fun j => (hb2.frozen (p := ⟨W.heap.size, j, none⟩) hOlt).trans (of_ j)
  have hOlt2 : W.heap.size < (w1.alloc (.cells #[.int .i64 0] 30)).heap.size := Nat.lt_of_lt_of_le hOlt hb2.size
  have O4 : Hid (wr.cell? ⟨W.heap.size, 4, none⟩ = some (.int .i64 (i : Nat))) := o4
  clear CV hb1 hb2 gA o0 o1 o2 o3 o4 of_ hOlt p0 p1 k0 k1 k2 k3 s0 s1 s2 s3 s4 HK hB OF OCC
  generalize (w1.alloc (.cells #[.int .i64 0] 30)) = V2 at *
  obtain ⟨p0, p1, k0, k1, k2, k3, s0, s1, s2, s3, s4⟩ := KEEP.out V2 B2.out
  by_cases hend : i = N
  ·rw [decide_eq_true hend]
   subst hend
   have sf : ∀ j, V2.frozen? ⟨w.heap.size + 2, j, none⟩ = false := fun j => (B2.out.frozen (p := ⟨w.heap.size + 2, j, none⟩) hOP2.out).trans (SF.out j)
   obtain ⟨y0, y1, y2, y3, y4⟩ := put5 q (i : Int) s0 s1 s2 s3 s4
   have HR : w.heap.size + 2 ≤ W.heap.size := by have := hOP2.out; omega
   have HA : w.heap.size ≤ w.heap.size + 2 := by omega
   have FS : Hid (StaF lo (iJ m.toNat l pk s) q (((((V2.setCell ⟨w.heap.size + 2, 0, none⟩ (.slice q.sa q.sn q.sc)).setCell ⟨w.heap.size + 2, 1, none⟩ (.slice q.ra q.rn q.rc)).setCell ⟨w.heap.size + 2, 2, none⟩ (.slice q.wa q.wn q.tc)).setCell ⟨w.heap.size + 2, 3, none⟩ (.slice q.va q.vn q.vc)).setCell ⟨w.heap.size + 2, 4, none⟩ (.int .i64 (i : Nat)))) := by
    show StaF _ _ _ _
    rw [HEN.out]
    exact (((((HK2.out.set HA HR 0 _).set HA HR 1 _).set HA HR 2 _).set HA HR 3 _).set HA HR 4 _).staF
   have FB : Hid (Below w.heap.size w (((((V2.setCell ⟨w.heap.size + 2, 0, none⟩ (.slice q.sa q.sn q.sc)).setCell ⟨w.heap.size + 2, 1, none⟩ (.slice q.ra q.rn q.rc)).setCell ⟨w.heap.size + 2, 2, none⟩ (.slice q.wa q.wn q.tc)).setCell ⟨w.heap.size + 2, 3, none⟩ (.slice q.va q.vn q.vc)).setCell ⟨w.heap.size + 2, 4, none⟩ (.int .i64 (i : Nat)))) := aG (aG (aG (aG (aG (aC hW.out B2.out) HA _) HA _) HA _) HA _) HA _
   go_wp2
   refine bodyPost_ret (v := .agg #[.slice q.sa q.sn q.sc, .slice q.ra q.rn q.rc, .slice q.wa q.wn q.tc, .slice q.va q.vn q.vc, .int .i64 (i : Nat)]) (by simp [results, Tryz.results76, go_sem, y0, y1, y2, y3, y4]) rfl ⟨q, rfl, FS.out, FB.out⟩
  ·rw [decide_eq_false hend]
   have hlt : i < N := by omega
   obtain ⟨d, hd⟩ : ∃ d, Hid (d = min i pk.length) := ⟨_, rfl⟩
   have hmin : (if pk.length < i then (pk.length : Int) else (i : Int)) = (d : Int) := by have := hd.out; split <;> omega
   have hdl : d ≤ pk.length := by have := hd.out; omega
   obtain ⟨ad, hAd⟩ : ∃ ad, (if pc = d then pa else Option.map (fun x => x.add d) pa) = ad := ⟨_, rfl⟩
   have HDI : Hid (IsInts V2 ad (pk.drop d)) := by rw [← hAd]; exact ints_from (HP.out.below B2.out) hpc hdl
   have hdn : (pk.drop d).length = pk.length - d := by rw [List.length_drop]
   have HWD : Hid (∀ j, j < (pk.drop d).length → (Lit.int .i64 ((pk.drop d).getD j 0)).wf = true) := fun j hj => by
    rw [hdn] at hj
    have h := HWF.out (d + j) (by omega)
    simpa [List.getD] using h
   have CX : Hid (∀ w', Below V2.heap.size V2 w' → Calls Tryz.prog 115 #[.agg #[.int .i64 m, .slice la l.length lc], .agg #[.slice q.sa q.sn q.sc, .slice q.ra q.rn q.rc, .slice q.wa q.wn q.tc, .slice q.va q.vn q.vc], .slice ad (pk.length - d) (pc - d)] w' fun e w'' => ∃ q' : Q4, e = .returned (.agg #[.slice q'.sa q'.sn q'.sc, .slice q'.ra q'.rn q'.rc, .slice q'.wa q'.wn q'.tc, .slice q'.va q'.vn q'.vc]) ∧ StaF w'.heap.size (aS m.toNat l pk s (i + 1)) q' w'' ∧ Below w'.heap.size w' w'') := fun w' hb => by
    have h := next_any la lc l ad (pc - d) (pk.drop d) m q (aS m.toNat l pk s i) w' (HL.out.below (aC B2.out hb)) (HK2.out.below hb).sta (HDI.out.below hb) HWD.out (by rw [hdn]; have := HM.out; omega) (WST.out i hi) (WCAN.out i hlt)
    rw [WNX.out i hlt _ (by rw [hd.out]), hdn] at h
    exact h
   clear HDI HWD hdn
   go_upto_region 3 with fail
   have KS : Hid (∀ w', Below V2.heap.size V2 w' → w'.cell? ⟨w.heap.size, 0, none⟩ = some (.int .i64 m) ∧ w'.cell? ⟨w.heap.size, 1, none⟩ = some (.slice la l.length lc) ∧ w'.cell? ⟨W.heap.size, 4, none⟩ = some (.int .i64 (i : Int))) := fun w' hb => ⟨aA hb p0, aA hb p1, aA hb o4'⟩
   clear p0 p1 k0 k1 k2 k3 s0 s1 s2 s3 s4
   refine wp_region_held_drew (S := (fun w' => w'.cell? ⟨w.heap.size, 0, none⟩ = some (.int .i64 m) ∧ w'.cell? ⟨w.heap.size, 1, none⟩ = some (.slice la l.length lc) ∧ w'.cell? ⟨W.heap.size, 4, none⟩ = some (.int .i64 (i : Int)))) (by kernel_rfl) ?_ (fun hHeld => ?_)
   ·refine KS.out _ ?_
    exact aD (Below.refl _ _)
   refine tk (i := 0) (oi := { dst := some 18, op := .load 24 (.tmp 3), type := 24, pos := "play.go:47", after := #[], guard := none }) (v := ?_) rfl (by kernel_rfl) (by kernel_rfl) (by kernel_rfl) (fun _ _ _ h => h) (by rfl) (by assumption) ?_ ?_; rotate_left; focus (intro w hSw; go_simp; first | done | with_reducible rfl)
   try simp only [Act.put, List.setIfInBounds_toArray, List.set_cons_zero, List.set_cons_succ]
   refine tk (i := 1) (oi := { dst := some 19, op := .fieldAddr 107 (.tmp 7) 0, type := 0, pos := "play.go:47", after := #[], guard := none }) (v := ?_) rfl (by kernel_rfl) (by kernel_rfl) (by kernel_rfl) (fun _ _ _ h => h) (by rfl) (by assumption) ?_ ?_; rotate_left; focus (intro w hSw; go_simp; first | done | with_reducible rfl)
   try simp only [Act.put, List.setIfInBounds_toArray, List.set_cons_zero, List.set_cons_succ]
   refine tk (i := 3) (oi := { dst := some 21, op := .move (.tmp 2), type := 25, pos := "play.go:47", after := #[], guard := none }) (v := ?_) rfl (by kernel_rfl) (by kernel_rfl) (by kernel_rfl) (fun _ _ _ h => h) (by rfl) (by assumption) ?_ ?_; rotate_left; focus (intro w hSw; go_simp; first | done | with_reducible rfl)
   try simp only [Act.put, List.setIfInBounds_toArray, List.set_cons_zero, List.set_cons_succ]
   refine tk (i := 4) (oi := { dst := some 22, op := .fieldAddr 107 (.tmp 7) 1, type := 0, pos := "play.go:47", after := #[], guard := none }) (v := ?_) rfl (by kernel_rfl) (by kernel_rfl) (by kernel_rfl) (fun _ _ _ h => h) (by rfl) (by assumption) ?_ ?_; rotate_left; focus (intro w hSw; go_simp; first | done | with_reducible rfl)
   try simp only [Act.put, List.setIfInBounds_toArray, List.set_cons_zero, List.set_cons_succ]
   refine tk (i := 5) (oi := { dst := some 23, op := .load 3 (.tmp 22), type := 3, pos := "play.go:47", after := #[{ on := 4, ground := .data }], guard := none }) (v := ?_) rfl (by kernel_rfl) (by kernel_rfl) (by kernel_rfl) (fun _ _ _ h => h) (by rfl) (by assumption) ?_ ?_; rotate_left; focus (intro w hSw; go_simp; first | done | with_reducible rfl)
   try simp only [Act.put, List.setIfInBounds_toArray, List.set_cons_zero, List.set_cons_succ]
   refine tk (i := 6) (oi := { dst := some 24, op := .move (.tmp 2), type := 25, pos := "play.go:47", after := #[], guard := none }) (v := ?_) rfl (by kernel_rfl) (by kernel_rfl) (by kernel_rfl) (fun _ _ _ h => h) (by rfl) (by assumption) ?_ ?_; rotate_left; focus (intro w hSw; go_simp; first | done | with_reducible rfl)
   try simp only [Act.put, List.setIfInBounds_toArray, List.set_cons_zero, List.set_cons_succ]
   refine tk (i := 7) (oi := { dst := some 25, op := .call { callee := .builtin .len, args := #[.tmp 24], argTypes := #[25] }, type := 3, pos := "play.go:47", after := #[{ on := 6, ground := .data }], guard := none }) (v := ?_) rfl (by kernel_rfl) (by kernel_rfl) (by kernel_rfl) (fun _ _ _ h => h) (by rfl) (by assumption) ?_ ?_; rotate_left; focus (intro w hSw; go_simp; first | done | with_reducible rfl)
   try simp only [Act.put, List.setIfInBounds_toArray, List.set_cons_zero, List.set_cons_succ]
   refine tk (i := 8) (oi := { dst := some 26, op := .call { callee := .builtin .min, args := #[.tmp 23, .tmp 25], argTypes := #[3, 3] }, type := 3, pos := "play.go:47", after := #[{ on := 5, ground := .data }, { on := 7, ground := .data }], guard := none }) (v := ?_) rfl (by kernel_rfl) (by kernel_rfl) (by kernel_rfl) (fun _ _ _ h => h) (by rfl) (by assumption) ?_ ?_; rotate_left; focus (intro w hSw; go_simp; first | done | with_reducible rfl)
   try simp only [Act.put, List.setIfInBounds_toArray, List.set_cons_zero, List.set_cons_succ]
   refine tk (i := 9) (oi := { dst := some 27, op := .slice 25 (.tmp 21) (some (.tmp 26)) none none, type := 25, pos := "play.go:47", after := #[{ on := 3, ground := .data }, { on := 8, ground := .data }], guard := none }) (v := ?_) rfl (by kernel_rfl) (by kernel_rfl) (by kernel_rfl) (fun _ _ _ h => h) (by rfl) (by assumption) ?_ ?_; rotate_left; focus (intro w hSw; go_simp; first | done | with_reducible rfl)
   try simp only [Act.put, List.setIfInBounds_toArray, List.set_cons_zero, List.set_cons_succ]
   refine wpAnyH_ready (rs := [2]) (by kernel_rfl) (by simp) ?_
   refine AllReadyH.cons (o := { dst := some 20, op := .load 29 (.tmp 19), type := 29, pos := "play.go:47", after := #[{ on := 1, ground := .data }], guard := none }) rfl (fun K hK => ?_) AllReadyH.nil
   go_simp
   skip
   clear hHeld
   refine hK.out _ _ (KS.out _ (aD (Below.refl _ _))) (fun hHeld => ?_)
   clear hK K
   refine wpAnyH_ready (rs := [10]) (by kernel_rfl) (by simp) ?_
   refine AllReadyH.cons (o := { dst := some 28, op := .call { callee := .value (.func 115), args := #[.tmp 18, .tmp 20, .tmp 27], argTypes := #[24, 29, 25] }, type := 29, pos := "play.go:47", after := #[{ on := 0, ground := .data }, { on := 2, ground := .data }, { on := 9, ground := .data }], guard := none }) rfl (fun K hK => ?_) AllReadyH.nil
   go_simp
   go_wp2_with (go_at_call 115; refine (CX.out _ (aD (Below.refl _ _))).mono ?_; rintro e w3 ⟨q5, rfl, h5, hb3⟩)
   have B3 : Hid (Below V2.heap.size V2 w3) := aC (aD (Below.refl _ _)) hb3
   have z0 := aA B3.out o0'
   have z1 := aA B3.out o1'
   have z2 := aA B3.out o2'
   have z3 := aA B3.out o3'
   have z4 := aA B3.out o4'
   have zf : ∀ j, w3.frozen? ⟨W.heap.size, j, none⟩ = false := fun j => (B3.out.frozen (p := ⟨W.heap.size, j, none⟩) hOlt2).trans (of2 j)
   obtain ⟨y0, y1, y2, y3⟩ := kZ q5 z0 z1 z2 z3
   have y4 : ((((w3.setCell ⟨W.heap.size, 0, none⟩ (.slice q5.sa q5.sn q5.sc)).setCell ⟨W.heap.size, 1, none⟩ (.slice q5.ra q5.rn q5.rc)).setCell ⟨W.heap.size, 2, none⟩ (.slice q5.wa q5.wn q5.tc)).setCell ⟨W.heap.size, 3, none⟩ (.slice q5.va q5.vn q5.vc)).cell? ⟨W.heap.size, 4, none⟩ = some (.int .i64 (i : Int)) := aH (by decide) (aH (by decide) (aH (by decide) (aH (by decide) z4)))
   have PF : Hid (((((w3.setCell ⟨W.heap.size, 0, none⟩ (.slice q5.sa q5.sn q5.sc)).setCell ⟨W.heap.size, 1, none⟩ (.slice q5.ra q5.rn q5.rc)).setCell ⟨W.heap.size, 2, none⟩ (.slice q5.wa q5.wn q5.tc)).setCell ⟨W.heap.size, 3, none⟩ (.slice q5.va q5.vn q5.vc)).cell? ⟨w.heap.size, 0, none⟩ = some (.int .i64 m) ∧ ((((w3.setCell ⟨W.heap.size, 0, none⟩ (.slice q5.sa q5.sn q5.sc)).setCell ⟨W.heap.size, 1, none⟩ (.slice q5.ra q5.rn q5.rc)).setCell ⟨W.heap.size, 2, none⟩ (.slice q5.wa q5.wn q5.tc)).setCell ⟨W.heap.size, 3, none⟩ (.slice q5.va q5.vn q5.vc)).cell? ⟨w.heap.size, 1, none⟩ = some (.slice la l.length lc) ∧ ((((w3.setCell ⟨W.heap.size, 0, none⟩ (.slice q5.sa q5.sn q5.sc)).setCell ⟨W.heap.size, 1, none⟩ (.slice q5.ra q5.rn q5.rc)).setCell ⟨W.heap.size, 2, none⟩ (.slice q5.wa q5.wn q5.tc)).setCell ⟨W.heap.size, 3, none⟩ (.slice q5.va q5.vn q5.vc)).cell? ⟨W.heap.size, 4, none⟩ = some (.int .i64 (i : Int))) := ⟨aO hOP.out (KS.out _ B3.out).1, aO hOP.out (KS.out _ B3.out).2.1, y4⟩
   have HK5 : Hid (KO lo w.heap.size W.heap.size (aS m.toNat l pk s (i + 1)) q5 ((((w3.setCell ⟨W.heap.size, 0, none⟩ (.slice q5.sa q5.sn q5.sc)).setCell ⟨W.heap.size, 1, none⟩ (.slice q5.ra q5.rn q5.rc)).setCell ⟨W.heap.size, 2, none⟩ (.slice q5.wa q5.wn q5.tc)).setCell ⟨W.heap.size, 3, none⟩ (.slice q5.va q5.vn q5.vc))) := ((((h5.ko (by have := B2.out.size; have := hW.out.size; show lo ≤ V2.heap.size; omega) (by exact hOlt2)).set hW.out.size (Nat.le_refl _) 0 _).set hW.out.size (Nat.le_refl _) 1 _).set hW.out.size (Nat.le_refl _) 2 _).set hW.out.size (Nat.le_refl _) 3 _
   have BP : Hid (Below W.heap.size W ((((w3.setCell ⟨W.heap.size, 0, none⟩ (.slice q5.sa q5.sn q5.sc)).setCell ⟨W.heap.size, 1, none⟩ (.slice q5.ra q5.rn q5.rc)).setCell ⟨W.heap.size, 2, none⟩ (.slice q5.wa q5.wn q5.tc)).setCell ⟨W.heap.size, 3, none⟩ (.slice q5.va q5.vn q5.vc))) := aG (aG (aG (aG (aC B2.out B3.out) hOW.out _) hOW.out _) hOW.out _) hOW.out _
   have PFz : ∀ j, ((((w3.setCell ⟨W.heap.size, 0, none⟩ (.slice q5.sa q5.sn q5.sc)).setCell ⟨W.heap.size, 1, none⟩ (.slice q5.ra q5.rn q5.rc)).setCell ⟨W.heap.size, 2, none⟩ (.slice q5.wa q5.wn q5.tc)).setCell ⟨W.heap.size, 3, none⟩ (.slice q5.va q5.vn q5.vc)).frozen? ⟨W.heap.size, j, none⟩ = false := fun j => by simpa using zf j
   clear hHeld
   refine hK.out _ _ (KS.out _ B3.out) (fun hHeld => ?_)
   clear hK K
   refine tk (i := 11) (oi := { dst := some 29, op := .fieldAddr 107 (.tmp 7) 0, type := 0, pos := "play.go:47", after := #[{ on := 0, ground := .phase }, { on := 1, ground := .phase }, { on := 2, ground := .phase }, { on := 3, ground := .phase }, { on := 4, ground := .phase }, { on := 5, ground := .phase }, { on := 6, ground := .phase }, { on := 7, ground := .phase }, { on := 8, ground := .phase }, { on := 9, ground := .phase }, { on := 10, ground := .phase }], guard := none }) (v := ?_) rfl (by kernel_rfl) (by kernel_rfl) (by kernel_rfl) (fun _ _ _ h => h) (by rfl) (by assumption) ?_ ?_; rotate_left; focus (intro w hSw; go_simp; first | done | with_reducible rfl)
   try simp only [Act.put, List.setIfInBounds_toArray, List.set_cons_zero, List.set_cons_succ]
   refine wpAnyH_ready (rs := [12]) (by kernel_rfl) (by simp) ?_
   refine AllReadyH.cons (o := { dst := none, op := .store 29 (.tmp 29) (.tmp 28), type := 0, pos := "play.go:47", after := #[{ on := 11, ground := .data }, { on := 10, ground := .data }, { on := 10, ground := .chain }, { on := 0, ground := .phase }, { on := 1, ground := .phase }, { on := 2, ground := .phase }, { on := 3, ground := .phase }, { on := 4, ground := .phase }, { on := 5, ground := .phase }, { on := 6, ground := .phase }, { on := 7, ground := .phase }, { on := 8, ground := .phase }, { on := 9, ground := .phase }, { on := 10, ground := .phase }], guard := none }) rfl (fun K hK => ?_) AllReadyH.nil
   go_simp
   skip
   clear hHeld
   refine hK.out _ _ (PF.out) (fun hHeld => ?_)
   clear hK K
   refine wpAnyH_done (by kernel_rfl) ?_ _
   go_wp2
   have hn : (i : Int) + 1 = ((i + 1 : Nat) : Int) := by omega
   obtain ⟨x0, x1, x2, x3, x4⟩ := put5 q5 ((i : Int) + 1) z0 z1 z2 z3 z4
   have x5 : (((((w3.setCell ⟨W.heap.size, 0, none⟩ (.slice q5.sa q5.sn q5.sc)).setCell ⟨W.heap.size, 1, none⟩ (.slice q5.ra q5.rn q5.rc)).setCell ⟨W.heap.size, 2, none⟩ (.slice q5.wa q5.wn q5.tc)).setCell ⟨W.heap.size, 3, none⟩ (.slice q5.va q5.vn q5.vc)).setCell ⟨W.heap.size, 4, none⟩ (.int .i64 ((i : Int) + 1))).cell? ⟨W.heap.size, 4, none⟩ = some (.int .i64 ((i + 1 : Nat) : Int)) := x4.trans (by rw [hn])
   clear hn x4
   have PZ : Hid (∀ j, (((((w3.setCell ⟨W.heap.size, 0, none⟩ (.slice q5.sa q5.sn q5.sc)).setCell ⟨W.heap.size, 1, none⟩ (.slice q5.ra q5.rn q5.rc)).setCell ⟨W.heap.size, 2, none⟩ (.slice q5.wa q5.wn q5.tc)).setCell ⟨W.heap.size, 3, none⟩ (.slice q5.va q5.vn q5.vc)).setCell ⟨W.heap.size, 4, none⟩ (.int .i64 ((i : Int) + 1))).frozen? ⟨W.heap.size, j, none⟩ = false) := fun j => by simpa using zf j
   have HK6 : Hid (KO lo w.heap.size W.heap.size (aS m.toNat l pk s (i + 1)) q5 (((((w3.setCell ⟨W.heap.size, 0, none⟩ (.slice q5.sa q5.sn q5.sc)).setCell ⟨W.heap.size, 1, none⟩ (.slice q5.ra q5.rn q5.rc)).setCell ⟨W.heap.size, 2, none⟩ (.slice q5.wa q5.wn q5.tc)).setCell ⟨W.heap.size, 3, none⟩ (.slice q5.va q5.vn q5.vc)).setCell ⟨W.heap.size, 4, none⟩ (.int .i64 ((i : Int) + 1)))) := HK5.out.set hW.out.size (Nat.le_refl _) 4 _
   have B6 : Hid (Below W.heap.size W (((((w3.setCell ⟨W.heap.size, 0, none⟩ (.slice q5.sa q5.sn q5.sc)).setCell ⟨W.heap.size, 1, none⟩ (.slice q5.ra q5.rn q5.rc)).setCell ⟨W.heap.size, 2, none⟩ (.slice q5.wa q5.wn q5.tc)).setCell ⟨W.heap.size, 3, none⟩ (.slice q5.va q5.vn q5.vc)).setCell ⟨W.heap.size, 4, none⟩ (.int .i64 ((i : Int) + 1)))) := aG BP.out hOW.out _
   have X : Hid ((((((w3.setCell ⟨W.heap.size, 0, none⟩ (.slice q5.sa q5.sn q5.sc)).setCell ⟨W.heap.size, 1, none⟩ (.slice q5.ra q5.rn q5.rc)).setCell ⟨W.heap.size, 2, none⟩ (.slice q5.wa q5.wn q5.tc)).setCell ⟨W.heap.size, 3, none⟩ (.slice q5.va q5.vn q5.vc)).setCell ⟨W.heap.size, 4, none⟩ (.int .i64 ((i : Int) + 1))).cell? ⟨W.heap.size, 0, none⟩ = some (.slice q5.sa q5.sn q5.sc) ∧ (((((w3.setCell ⟨W.heap.size, 0, none⟩ (.slice q5.sa q5.sn q5.sc)).setCell ⟨W.heap.size, 1, none⟩ (.slice q5.ra q5.rn q5.rc)).setCell ⟨W.heap.size, 2, none⟩ (.slice q5.wa q5.wn q5.tc)).setCell ⟨W.heap.size, 3, none⟩ (.slice q5.va q5.vn q5.vc)).setCell ⟨W.heap.size, 4, none⟩ (.int .i64 ((i : Int) + 1))).cell? ⟨W.heap.size, 1, none⟩ = some (.slice q5.ra q5.rn q5.rc) ∧ (((((w3.setCell ⟨W.heap.size, 0, none⟩ (.slice q5.sa q5.sn q5.sc)).setCell ⟨W.heap.size, 1, none⟩ (.slice q5.ra q5.rn q5.rc)).setCell ⟨W.heap.size, 2, none⟩ (.slice q5.wa q5.wn q5.tc)).setCell ⟨W.heap.size, 3, none⟩ (.slice q5.va q5.vn q5.vc)).setCell ⟨W.heap.size, 4, none⟩ (.int .i64 ((i : Int) + 1))).cell? ⟨W.heap.size, 2, none⟩ = some (.slice q5.wa q5.wn q5.tc) ∧ (((((w3.setCell ⟨W.heap.size, 0, none⟩ (.slice q5.sa q5.sn q5.sc)).setCell ⟨W.heap.size, 1, none⟩ (.slice q5.ra q5.rn q5.rc)).setCell ⟨W.heap.size, 2, none⟩ (.slice q5.wa q5.wn q5.tc)).setCell ⟨W.heap.size, 3, none⟩ (.slice q5.va q5.vn q5.vc)).setCell ⟨W.heap.size, 4, none⟩ (.int .i64 ((i : Int) + 1))).cell? ⟨W.heap.size, 3, none⟩ = some (.slice q5.va q5.vn q5.vc) ∧ (((((w3.setCell ⟨W.heap.size, 0, none⟩ (.slice q5.sa q5.sn q5.sc)).setCell ⟨W.heap.size, 1, none⟩ (.slice q5.ra q5.rn q5.rc)).setCell ⟨W.heap.size, 2, none⟩ (.slice q5.wa q5.wn q5.tc)).setCell ⟨W.heap.size, 3, none⟩ (.slice q5.va q5.vn q5.vc)).setCell ⟨W.heap.size, 4, none⟩ (.int .i64 ((i : Int) + 1))).cell? ⟨W.heap.size, 4, none⟩ = some (.int .i64 ((i + 1) : Nat))) := ⟨x0, x1, x2, x3, x5⟩
   clear x0 x1 x2 x3
   go_roundw
   case rel => exact ⟨i + 1, q5, hlt, X, PZ, HK6, B6⟩
   case measure =>
    rw [x5, O4.out]
    show N - (((i + 1 : Nat) : Int)).toNat < N - ((i : Nat) : Int).toNat
    rw [Int.toNat_natCast, Int.toNat_natCast]
    omega
end Go.Proofs.YtebjkmknhpgemaaGreat
