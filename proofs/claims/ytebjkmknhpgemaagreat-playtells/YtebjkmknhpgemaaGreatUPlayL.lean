/-
  
  Conditions: those that each theorem states.
-/
import Derived.Test.YtebjkmknhpgemaaGreatUPlayK
import Derived.Test.YtebjkmknhpgemaaGreatUPlayH
import Derived.Test.YtebjkmknhpgemaaGreatUChkW
set_option maxRecDepth 100000
namespace Go.Proofs.YtebjkmknhpgemaaGreat
open Go.RowKit
theorem docRW {sh : Nat} {l : List TxA} {s pk : List Int} (hb : dX (sh : Int) l s = 0) {i : Nat} (hi : i ≤ aN sh l) (h : ∀ j, i ≤ j → j < aN sh l → pk.length ≤ j) : RW sh l (fun j => (aS sh l pk s) (i + j)) (aN sh l - i) := by
 have W := lV (pk := pk) hb
 have hp := (lS hb).1
 have st : ∀ j, j ≤ aN sh l → eF (sh : Int) l ((aS sh l pk s) j) = 0 := by
  have h := W.st
  rw [Int.toNat_natCast] at h
  exact h
 have ov : ∀ j, j ≤ aN sh l → cD sh l ((aS sh l pk s) j) = decide (j = aN sh l) := fun j hj => by
  have h := W.ov
  rw [Int.toNat_natCast] at h
  have e : ovE (sh : Int) l ((aS sh l pk s) j) = cD (sh : Int).toNat l ((aS sh l pk s) j) := if_pos (st j hj)
  rw [← h j hj, e, Int.toNat_natCast]
 have can : ∀ j, j < aN sh l → 0 < (bD sh l ((aS sh l pk s) j)).length := fun j hj => by
  have h := W.can
  rw [Int.toNat_natCast] at h
  have e : bO (sh : Int) l ((aS sh l pk s) j) = bD (sh : Int).toNat l ((aS sh l pk s) j) := if_pos (st j (by omega))
  rw [Int.toNat_natCast] at e
  rw [← e]
  exact h j hj
 have mem : ∀ j, j < aN sh l → (bD sh l ((aS sh l pk s) j)).getD 0 (0, 0, 0) ∈ bD sh l ((aS sh l pk s) j) := fun j hj => by
  have h := can j hj
  simp [List.getD, h]
 have n64 : aN sh l ≤ 64 := by
  have h := W.n
  rw [Int.toNat_natCast] at h
  exact h
 refine ⟨fun j hj => ?_, fun j hj => ?_, fun j hj => can _ (by omega), fun j hj => (fD.1 (mem (i + j) (by omega))).1, fun j hj => (fD.1 (mem (i + j) (by omega))).2.1, fun j hj => (fD.1 (mem (i + j) (by omega))).2.2.1, fun j hj => ?_, by omega⟩
 ·obtain ⟨sh', e, _, _, _, _, hf, _⟩ := dL (st (i + j) (by omega))
  have e' : sh' = sh := by omega
  subst e'
  exact dB.1 hf
 ·rw [ov _ (by omega)]
  by_cases c : j = aN sh l - i
  ·rw [decide_eq_true c, decide_eq_true (by omega)]
  ·rw [decide_eq_false c, decide_eq_false (by omega)]
 ·have e : fK pk (i + j) (bD sh l ((aS sh l pk s) (i + j))).length = 0 := if_neg (by have := h (i + j) (by omega) (by omega); omega)
  show _ = nextX sh l pk ((aS sh l pk s) (i + j)) (i + j)
  unfold nextX step1
  rw [e]
variable (la : Option Addr) (lc : Nat) (l : List TxA) (sa : Option Addr) (sc : Nat) (s : List Int) (pa : Option Addr) (pc : Nat) (pk : List Int)
set_option maxHeartbeats 4000000 in
theorem rD (m : Int) (w : World) (hl : IsTxs w la l) (hE : ¬ aP m l = 0) :
  Calls Tryz.prog 31 #[.agg #[.int .i64 m, .slice la l.length lc], .slice sa s.length sc, .slice pa pk.length pc] w fun e w' => e = .returned (.tuple #[.agg #[.slice none 0 0, .slice none 0 0, .slice none 0 0, .slice none 0 0], .int .i64 0, .int .i64 (aP m l)]) ∧ Below w.heap.size w w' := by
 obtain ⟨W, hWe⟩ : ∃ W : World, W = ((w.alloc (.cells #[.int .i64 m, .slice la l.length lc] 24)).alloc (.cells #[.slice none 0 0, .slice none 0 0, .slice none 0 0, .slice none 0 0] 29)) := ⟨_, rfl⟩
 have hU : Hid (Below w.heap.size w W) := by subst hWe; exact (aB (aB (Below.refl _ _) _) _)
 have sz : Hid (W.heap.size = w.heap.size + 2) := by subst hWe; show _ = _; simp
 have p0 : W.cell? ⟨w.heap.size, 0, none⟩ = some (.int .i64 m) := by subst hWe; exact aA (aB (Below.refl _ _) _) (aE _ _ 24 _ 0 _ rfl rfl)
 have p1 : W.cell? ⟨w.heap.size, 1, none⟩ = some (.slice la l.length lc) := by subst hWe; exact aA (aB (Below.refl _ _) _) (aE _ _ 24 _ 1 _ rfl rfl)
 have r0 : W.cell? ⟨w.heap.size + 1, 0, none⟩ = some (.slice none 0 0) := by subst hWe; exact aE _ _ 29 _ 0 _ (by simp) rfl
 have r1 : W.cell? ⟨w.heap.size + 1, 1, none⟩ = some (.slice none 0 0) := by subst hWe; exact aE _ _ 29 _ 1 _ (by simp) rfl
 have r2 : W.cell? ⟨w.heap.size + 1, 2, none⟩ = some (.slice none 0 0) := by subst hWe; exact aE _ _ 29 _ 2 _ (by simp) rfl
 have r3 : W.cell? ⟨w.heap.size + 1, 3, none⟩ = some (.slice none 0 0) := by subst hWe; exact aE _ _ 29 _ 3 _ (by simp) rfl
 have RF : Hid (∀ j, W.frozen? ⟨w.heap.size + 1, j, none⟩ = false) := by subst hWe; exact fun j => aT _ _ 29 _ j (by simp)
 have KEEP : Hid (∀ w', Below W.heap.size W w' → w'.cell? ⟨w.heap.size, 0, none⟩ = some (.int .i64 m) ∧ w'.cell? ⟨w.heap.size, 1, none⟩ = some (.slice la l.length lc) ∧ w'.cell? ⟨w.heap.size + 1, 0, none⟩ = some (.slice none 0 0) ∧ w'.cell? ⟨w.heap.size + 1, 1, none⟩ = some (.slice none 0 0) ∧ w'.cell? ⟨w.heap.size + 1, 2, none⟩ = some (.slice none 0 0) ∧ w'.cell? ⟨w.heap.size + 1, 3, none⟩ = some (.slice none 0 0)) := fun w' hb => ⟨aA hb p0, aA hb p1, aA hb r0, aA hb r1, aA hb r2, aA hb r3⟩
 have HL : Hid (IsTxs W la l) := hl.below hU.out
 have HWe : Hid (W = _) := hWe
 clear p0 p1 r0 r1 r2 r3 hWe
 have CC : Hid (Calls Tryz.prog 16 #[.agg #[.int .i64 m, .slice la l.length lc]] W fun e w' => e = .returned (.int .i64 (aP m l)) ∧ Below W.heap.size W w') := fP la lc l m W HL.out
 generalize aP m l = E at *
 go_enter Tryz.func31, Tryz.ntmps31
 go_upto_region 1 with fail
 rw [← HWe.out]
 clear HWe
 obtain ⟨p0, p1, r0, r1, r2, r3⟩ := KEEP.out W (Below.refl _ _)
 go_wp2_with fail
 refine CC.out.mono ?_
 rintro e V ⟨rfl, hb1⟩
 clear p0 p1 r0 r1 r2 r3
 obtain ⟨p0, p1, r0, r1, r2, r3⟩ := KEEP.out V hb1
 have rf : ∀ j, V.frozen? ⟨w.heap.size + 1, j, none⟩ = false := fun j => (hb1.frozen (p := ⟨w.heap.size + 1, j, none⟩) (by have := sz.out; show w.heap.size + 1 < _; omega)).trans (RF.out j)
 have BV : Hid (Below W.heap.size W V) := hb1
 clear hb1
 obtain ⟨y0, y1, y2, y3⟩ := kZ qNil r0 r1 r2 r3
 have FB : Hid (Below w.heap.size w ((((V.setCell ⟨w.heap.size + 1, 0, none⟩ (.slice qNil.sa qNil.sn qNil.sc)).setCell ⟨w.heap.size + 1, 1, none⟩ (.slice qNil.ra qNil.rn qNil.rc)).setCell ⟨w.heap.size + 1, 2, none⟩ (.slice qNil.wa qNil.wn qNil.tc)).setCell ⟨w.heap.size + 1, 3, none⟩ (.slice qNil.va qNil.vn qNil.vc))) := aG (aG (aG (aG (aC hU.out BV.out) (by simp) _) (by simp) _) (by simp) _) (by simp) _
 change ((((V.setCell ⟨w.heap.size + 1, 0, none⟩ (.slice none 0 0)).setCell ⟨w.heap.size + 1, 1, none⟩ (.slice none 0 0)).setCell ⟨w.heap.size + 1, 2, none⟩ (.slice none 0 0)).setCell ⟨w.heap.size + 1, 3, none⟩ (.slice none 0 0)).cell? ⟨w.heap.size + 1, 0, none⟩ = some (.slice none 0 0) at y0
 change ((((V.setCell ⟨w.heap.size + 1, 0, none⟩ (.slice none 0 0)).setCell ⟨w.heap.size + 1, 1, none⟩ (.slice none 0 0)).setCell ⟨w.heap.size + 1, 2, none⟩ (.slice none 0 0)).setCell ⟨w.heap.size + 1, 3, none⟩ (.slice none 0 0)).cell? ⟨w.heap.size + 1, 1, none⟩ = some (.slice none 0 0) at y1
 change ((((V.setCell ⟨w.heap.size + 1, 0, none⟩ (.slice none 0 0)).setCell ⟨w.heap.size + 1, 1, none⟩ (.slice none 0 0)).setCell ⟨w.heap.size + 1, 2, none⟩ (.slice none 0 0)).setCell ⟨w.heap.size + 1, 3, none⟩ (.slice none 0 0)).cell? ⟨w.heap.size + 1, 2, none⟩ = some (.slice none 0 0) at y2
 change ((((V.setCell ⟨w.heap.size + 1, 0, none⟩ (.slice none 0 0)).setCell ⟨w.heap.size + 1, 1, none⟩ (.slice none 0 0)).setCell ⟨w.heap.size + 1, 2, none⟩ (.slice none 0 0)).setCell ⟨w.heap.size + 1, 3, none⟩ (.slice none 0 0)).cell? ⟨w.heap.size + 1, 3, none⟩ = some (.slice none 0 0) at y3
 go_wp2
 refine bodyPost_ret (v := .tuple #[.agg #[.slice none 0 0, .slice none 0 0, .slice none 0 0, .slice none 0 0], .int .i64 0, .int .i64 E]) (by simp [results, Tryz.results31, go_sem, y0, y1, y2, y3]) rfl ⟨rfl, FB.out⟩
set_option maxHeartbeats 4000000 in
theorem docPlay_form (m : Int) (w : World) (hl : IsTxs w la l) (hE : aP m l = 0) (h8 : ¬ s.length = 8) :
  Calls Tryz.prog 31 #[.agg #[.int .i64 m, .slice la l.length lc], .slice sa s.length sc, .slice pa pk.length pc] w fun e w' => e = .returned (.tuple #[.agg #[.slice none 0 0, .slice none 0 0, .slice none 0 0, .slice none 0 0], .int .i64 0, .int .i64 1]) ∧ Below w.heap.size w w' := by
 obtain ⟨W, hWe⟩ : ∃ W : World, W = ((w.alloc (.cells #[.int .i64 m, .slice la l.length lc] 24)).alloc (.cells #[.slice none 0 0, .slice none 0 0, .slice none 0 0, .slice none 0 0] 29)) := ⟨_, rfl⟩
 have hU : Hid (Below w.heap.size w W) := by subst hWe; exact (aB (aB (Below.refl _ _) _) _)
 have sz : Hid (W.heap.size = w.heap.size + 2) := by subst hWe; show _ = _; simp
 have p0 : W.cell? ⟨w.heap.size, 0, none⟩ = some (.int .i64 m) := by subst hWe; exact aA (aB (Below.refl _ _) _) (aE _ _ 24 _ 0 _ rfl rfl)
 have p1 : W.cell? ⟨w.heap.size, 1, none⟩ = some (.slice la l.length lc) := by subst hWe; exact aA (aB (Below.refl _ _) _) (aE _ _ 24 _ 1 _ rfl rfl)
 have r0 : W.cell? ⟨w.heap.size + 1, 0, none⟩ = some (.slice none 0 0) := by subst hWe; exact aE _ _ 29 _ 0 _ (by simp) rfl
 have r1 : W.cell? ⟨w.heap.size + 1, 1, none⟩ = some (.slice none 0 0) := by subst hWe; exact aE _ _ 29 _ 1 _ (by simp) rfl
 have r2 : W.cell? ⟨w.heap.size + 1, 2, none⟩ = some (.slice none 0 0) := by subst hWe; exact aE _ _ 29 _ 2 _ (by simp) rfl
 have r3 : W.cell? ⟨w.heap.size + 1, 3, none⟩ = some (.slice none 0 0) := by subst hWe; exact aE _ _ 29 _ 3 _ (by simp) rfl
 have RF : Hid (∀ j, W.frozen? ⟨w.heap.size + 1, j, none⟩ = false) := by subst hWe; exact fun j => aT _ _ 29 _ j (by simp)
 have KEEP : Hid (∀ w', Below W.heap.size W w' → w'.cell? ⟨w.heap.size, 0, none⟩ = some (.int .i64 m) ∧ w'.cell? ⟨w.heap.size, 1, none⟩ = some (.slice la l.length lc) ∧ w'.cell? ⟨w.heap.size + 1, 0, none⟩ = some (.slice none 0 0) ∧ w'.cell? ⟨w.heap.size + 1, 1, none⟩ = some (.slice none 0 0) ∧ w'.cell? ⟨w.heap.size + 1, 2, none⟩ = some (.slice none 0 0) ∧ w'.cell? ⟨w.heap.size + 1, 3, none⟩ = some (.slice none 0 0)) := fun w' hb => ⟨aA hb p0, aA hb p1, aA hb r0, aA hb r1, aA hb r2, aA hb r3⟩
 have HL : Hid (IsTxs W la l) := hl.below hU.out
 have HWe : Hid (W = _) := hWe
 clear p0 p1 r0 r1 r2 r3 hWe
 have CC : Hid (Calls Tryz.prog 16 #[.agg #[.int .i64 m, .slice la l.length lc]] W fun e w' => e = .returned (.int .i64 0) ∧ Below W.heap.size W w') := by
  have h := fP la lc l m W HL.out
  rw [hE] at h
  exact h
 have CI : Hid (∀ w', Calls Tryz.prog 17 #[.slice sa s.length sc] w' fun e w'' => e = .returned (.bool false) ∧ w'' = w') := fun w' => by
  have h := jF s sa sc w'
  rw [decide_eq_false h8] at h
  exact h
 clear h8 hE
 go_enter Tryz.func31, Tryz.ntmps31
 go_upto_region 1 with fail
 rw [← HWe.out]
 clear HWe
 obtain ⟨p0, p1, r0, r1, r2, r3⟩ := KEEP.out W (Below.refl _ _)
 go_wp2_with fail
 refine CC.out.mono ?_
 rintro e V ⟨rfl, hb1⟩
 clear p0 p1 r0 r1 r2 r3
 obtain ⟨p0, p1, r0, r1, r2, r3⟩ := KEEP.out V hb1
 have rf : ∀ j, V.frozen? ⟨w.heap.size + 1, j, none⟩ = false := fun j => (hb1.frozen (p := ⟨w.heap.size + 1, j, none⟩) (by have := sz.out; show w.heap.size + 1 < _; omega)).trans (RF.out j)
 have BV : Hid (Below W.heap.size W V) := hb1
 clear hb1
 go_wp2_with fail
 refine (CI.out _).mono ?_
 rintro e w2 ⟨rfl, hwe⟩
 subst hwe
 obtain ⟨y0, y1, y2, y3⟩ := kZ qNil r0 r1 r2 r3
 have FB : Hid (Below w.heap.size w ((((w2.setCell ⟨w.heap.size + 1, 0, none⟩ (.slice qNil.sa qNil.sn qNil.sc)).setCell ⟨w.heap.size + 1, 1, none⟩ (.slice qNil.ra qNil.rn qNil.rc)).setCell ⟨w.heap.size + 1, 2, none⟩ (.slice qNil.wa qNil.wn qNil.tc)).setCell ⟨w.heap.size + 1, 3, none⟩ (.slice qNil.va qNil.vn qNil.vc))) := aG (aG (aG (aG (aC hU.out BV.out) (by simp) _) (by simp) _) (by simp) _) (by simp) _
 change ((((w2.setCell ⟨w.heap.size + 1, 0, none⟩ (.slice none 0 0)).setCell ⟨w.heap.size + 1, 1, none⟩ (.slice none 0 0)).setCell ⟨w.heap.size + 1, 2, none⟩ (.slice none 0 0)).setCell ⟨w.heap.size + 1, 3, none⟩ (.slice none 0 0)).cell? ⟨w.heap.size + 1, 0, none⟩ = some (.slice none 0 0) at y0
 change ((((w2.setCell ⟨w.heap.size + 1, 0, none⟩ (.slice none 0 0)).setCell ⟨w.heap.size + 1, 1, none⟩ (.slice none 0 0)).setCell ⟨w.heap.size + 1, 2, none⟩ (.slice none 0 0)).setCell ⟨w.heap.size + 1, 3, none⟩ (.slice none 0 0)).cell? ⟨w.heap.size + 1, 1, none⟩ = some (.slice none 0 0) at y1
 change ((((w2.setCell ⟨w.heap.size + 1, 0, none⟩ (.slice none 0 0)).setCell ⟨w.heap.size + 1, 1, none⟩ (.slice none 0 0)).setCell ⟨w.heap.size + 1, 2, none⟩ (.slice none 0 0)).setCell ⟨w.heap.size + 1, 3, none⟩ (.slice none 0 0)).cell? ⟨w.heap.size + 1, 2, none⟩ = some (.slice none 0 0) at y2
 change ((((w2.setCell ⟨w.heap.size + 1, 0, none⟩ (.slice none 0 0)).setCell ⟨w.heap.size + 1, 1, none⟩ (.slice none 0 0)).setCell ⟨w.heap.size + 1, 2, none⟩ (.slice none 0 0)).setCell ⟨w.heap.size + 1, 3, none⟩ (.slice none 0 0)).cell? ⟨w.heap.size + 1, 3, none⟩ = some (.slice none 0 0) at y3
 go_wp2
 refine bodyPost_ret (v := .tuple #[.agg #[.slice none 0 0, .slice none 0 0, .slice none 0 0, .slice none 0 0], .int .i64 0, .int .i64 1]) (by simp [results, Tryz.results31, go_sem, y0, y1, y2, y3]) rfl ⟨rfl, FB.out⟩
set_option maxHeartbeats 4000000 in
theorem docPlay_many (m : Int) (w : World) (hl : IsTxs w la l) (hE : aP m l = 0) (h8 : s.length = 8) (hm : 200 < pk.length) :
  Calls Tryz.prog 31 #[.agg #[.int .i64 m, .slice la l.length lc], .slice sa s.length sc, .slice pa pk.length pc] w fun e w' => e = .returned (.tuple #[.agg #[.slice none 0 0, .slice none 0 0, .slice none 0 0, .slice none 0 0], .int .i64 0, .int .i64 2]) ∧ Below w.heap.size w w' := by
 obtain ⟨W, hWe⟩ : ∃ W : World, W = ((w.alloc (.cells #[.int .i64 m, .slice la l.length lc] 24)).alloc (.cells #[.slice none 0 0, .slice none 0 0, .slice none 0 0, .slice none 0 0] 29)) := ⟨_, rfl⟩
 have hU : Hid (Below w.heap.size w W) := by subst hWe; exact (aB (aB (Below.refl _ _) _) _)
 have sz : Hid (W.heap.size = w.heap.size + 2) := by subst hWe; show _ = _; simp
 have p0 : W.cell? ⟨w.heap.size, 0, none⟩ = some (.int .i64 m) := by subst hWe; exact aA (aB (Below.refl _ _) _) (aE _ _ 24 _ 0 _ rfl rfl)
 have p1 : W.cell? ⟨w.heap.size, 1, none⟩ = some (.slice la l.length lc) := by subst hWe; exact aA (aB (Below.refl _ _) _) (aE _ _ 24 _ 1 _ rfl rfl)
 have r0 : W.cell? ⟨w.heap.size + 1, 0, none⟩ = some (.slice none 0 0) := by subst hWe; exact aE _ _ 29 _ 0 _ (by simp) rfl
 have r1 : W.cell? ⟨w.heap.size + 1, 1, none⟩ = some (.slice none 0 0) := by subst hWe; exact aE _ _ 29 _ 1 _ (by simp) rfl
 have r2 : W.cell? ⟨w.heap.size + 1, 2, none⟩ = some (.slice none 0 0) := by subst hWe; exact aE _ _ 29 _ 2 _ (by simp) rfl
 have r3 : W.cell? ⟨w.heap.size + 1, 3, none⟩ = some (.slice none 0 0) := by subst hWe; exact aE _ _ 29 _ 3 _ (by simp) rfl
 have RF : Hid (∀ j, W.frozen? ⟨w.heap.size + 1, j, none⟩ = false) := by subst hWe; exact fun j => aT _ _ 29 _ j (by simp)
 have KEEP : Hid (∀ w', Below W.heap.size W w' → w'.cell? ⟨w.heap.size, 0, none⟩ = some (.int .i64 m) ∧ w'.cell? ⟨w.heap.size, 1, none⟩ = some (.slice la l.length lc) ∧ w'.cell? ⟨w.heap.size + 1, 0, none⟩ = some (.slice none 0 0) ∧ w'.cell? ⟨w.heap.size + 1, 1, none⟩ = some (.slice none 0 0) ∧ w'.cell? ⟨w.heap.size + 1, 2, none⟩ = some (.slice none 0 0) ∧ w'.cell? ⟨w.heap.size + 1, 3, none⟩ = some (.slice none 0 0)) := fun w' hb => ⟨aA hb p0, aA hb p1, aA hb r0, aA hb r1, aA hb r2, aA hb r3⟩
 have HL : Hid (IsTxs W la l) := hl.below hU.out
 have HWe : Hid (W = _) := hWe
 clear p0 p1 r0 r1 r2 r3 hWe
 have CC : Hid (Calls Tryz.prog 16 #[.agg #[.int .i64 m, .slice la l.length lc]] W fun e w' => e = .returned (.int .i64 0) ∧ Below W.heap.size W w') := by
  have h := fP la lc l m W HL.out
  rw [hE] at h
  exact h
 have CI : Hid (∀ w', Calls Tryz.prog 17 #[.slice sa s.length sc] w' fun e w'' => e = .returned (.bool true) ∧ w'' = w') := fun w' => by
  have h := jF s sa sc w'
  rw [decide_eq_true h8] at h
  exact h
 have hm' : (200 : Int) < (pk.length : Int) := by omega
 clear h8 hE hm
 go_enter Tryz.func31, Tryz.ntmps31
 go_upto_region 1 with fail
 rw [← HWe.out]
 clear HWe
 obtain ⟨p0, p1, r0, r1, r2, r3⟩ := KEEP.out W (Below.refl _ _)
 go_wp2_with fail
 refine CC.out.mono ?_
 rintro e V ⟨rfl, hb1⟩
 clear p0 p1 r0 r1 r2 r3
 obtain ⟨p0, p1, r0, r1, r2, r3⟩ := KEEP.out V hb1
 have rf : ∀ j, V.frozen? ⟨w.heap.size + 1, j, none⟩ = false := fun j => (hb1.frozen (p := ⟨w.heap.size + 1, j, none⟩) (by have := sz.out; show w.heap.size + 1 < _; omega)).trans (RF.out j)
 have BV : Hid (Below W.heap.size W V) := hb1
 clear hb1
 go_wp2_with fail
 refine (CI.out _).mono ?_
 rintro e w2 ⟨rfl, hwe⟩
 subst hwe
 obtain ⟨y0, y1, y2, y3⟩ := kZ qNil r0 r1 r2 r3
 have FB : Hid (Below w.heap.size w ((((w2.setCell ⟨w.heap.size + 1, 0, none⟩ (.slice qNil.sa qNil.sn qNil.sc)).setCell ⟨w.heap.size + 1, 1, none⟩ (.slice qNil.ra qNil.rn qNil.rc)).setCell ⟨w.heap.size + 1, 2, none⟩ (.slice qNil.wa qNil.wn qNil.tc)).setCell ⟨w.heap.size + 1, 3, none⟩ (.slice qNil.va qNil.vn qNil.vc))) := aG (aG (aG (aG (aC hU.out BV.out) (by simp) _) (by simp) _) (by simp) _) (by simp) _
 change ((((w2.setCell ⟨w.heap.size + 1, 0, none⟩ (.slice none 0 0)).setCell ⟨w.heap.size + 1, 1, none⟩ (.slice none 0 0)).setCell ⟨w.heap.size + 1, 2, none⟩ (.slice none 0 0)).setCell ⟨w.heap.size + 1, 3, none⟩ (.slice none 0 0)).cell? ⟨w.heap.size + 1, 0, none⟩ = some (.slice none 0 0) at y0
 change ((((w2.setCell ⟨w.heap.size + 1, 0, none⟩ (.slice none 0 0)).setCell ⟨w.heap.size + 1, 1, none⟩ (.slice none 0 0)).setCell ⟨w.heap.size + 1, 2, none⟩ (.slice none 0 0)).setCell ⟨w.heap.size + 1, 3, none⟩ (.slice none 0 0)).cell? ⟨w.heap.size + 1, 1, none⟩ = some (.slice none 0 0) at y1
 change ((((w2.setCell ⟨w.heap.size + 1, 0, none⟩ (.slice none 0 0)).setCell ⟨w.heap.size + 1, 1, none⟩ (.slice none 0 0)).setCell ⟨w.heap.size + 1, 2, none⟩ (.slice none 0 0)).setCell ⟨w.heap.size + 1, 3, none⟩ (.slice none 0 0)).cell? ⟨w.heap.size + 1, 2, none⟩ = some (.slice none 0 0) at y2
 change ((((w2.setCell ⟨w.heap.size + 1, 0, none⟩ (.slice none 0 0)).setCell ⟨w.heap.size + 1, 1, none⟩ (.slice none 0 0)).setCell ⟨w.heap.size + 1, 2, none⟩ (.slice none 0 0)).setCell ⟨w.heap.size + 1, 3, none⟩ (.slice none 0 0)).cell? ⟨w.heap.size + 1, 3, none⟩ = some (.slice none 0 0) at y3
 go_wp2
 refine bodyPost_ret (v := .tuple #[.agg #[.slice none 0 0, .slice none 0 0, .slice none 0 0, .slice none 0 0], .int .i64 0, .int .i64 2]) (by simp [results, Tryz.results31, go_sem, y0, y1, y2, y3]) rfl ⟨rfl, FB.out⟩
set_option maxHeartbeats 8000000 in
theorem docPlay_ok (sh : Nat) (w : World) (hl : IsTxs w la l) (hs : IsInts w sa s) (hp : IsInts w pa pk) (hw : ∀ i, i < pk.length → (Lit.int .i64 (pk.getD i 0)).wf = true) (hm : pk.length ≤ 200) (hb : dX (sh : Int) l s = 0) :
  Calls Tryz.prog 31 #[.agg #[.int .i64 (sh : Int), .slice la l.length lc], .slice sa s.length sc, .slice pa pk.length pc] w fun e w' => ∃ q' : Q4, e = .returned (.tuple #[.agg #[.slice q'.sa q'.sn q'.sc, .slice q'.ra q'.rn q'.rc, .slice q'.wa q'.wn q'.tc, .slice q'.va q'.vn q'.vc], .int .i64 (aN sh l : Nat), .int .i64 0]) ∧ StaF w.heap.size ((aS sh l pk s) (aN sh l)) q' w' ∧ Below w.heap.size w w' := by
 obtain ⟨W, hWe⟩ : ∃ W : World, W = ((w.alloc (.cells #[.int .i64 (sh : Int), .slice la l.length lc] 24)).alloc (.cells #[.slice none 0 0, .slice none 0 0, .slice none 0 0, .slice none 0 0] 29)) := ⟨_, rfl⟩
 have hU : Hid (Below w.heap.size w W) := by subst hWe; exact (aB (aB (Below.refl _ _) _) _)
 have sz : Hid (W.heap.size = w.heap.size + 2) := by subst hWe; show _ = _; simp
 have p0 : W.cell? ⟨w.heap.size, 0, none⟩ = some (.int .i64 (sh : Int)) := by subst hWe; exact aA (aB (Below.refl _ _) _) (aE _ _ 24 _ 0 _ rfl rfl)
 have p1 : W.cell? ⟨w.heap.size, 1, none⟩ = some (.slice la l.length lc) := by subst hWe; exact aA (aB (Below.refl _ _) _) (aE _ _ 24 _ 1 _ rfl rfl)
 have r0 : W.cell? ⟨w.heap.size + 1, 0, none⟩ = some (.slice none 0 0) := by subst hWe; exact aE _ _ 29 _ 0 _ (by simp) rfl
 have r1 : W.cell? ⟨w.heap.size + 1, 1, none⟩ = some (.slice none 0 0) := by subst hWe; exact aE _ _ 29 _ 1 _ (by simp) rfl
 have r2 : W.cell? ⟨w.heap.size + 1, 2, none⟩ = some (.slice none 0 0) := by subst hWe; exact aE _ _ 29 _ 2 _ (by simp) rfl
 have r3 : W.cell? ⟨w.heap.size + 1, 3, none⟩ = some (.slice none 0 0) := by subst hWe; exact aE _ _ 29 _ 3 _ (by simp) rfl
 have RF : Hid (∀ j, W.frozen? ⟨w.heap.size + 1, j, none⟩ = false) := by subst hWe; exact fun j => aT _ _ 29 _ j (by simp)
 have KEEP : Hid (∀ w', Below W.heap.size W w' → w'.cell? ⟨w.heap.size, 0, none⟩ = some (.int .i64 (sh : Int)) ∧ w'.cell? ⟨w.heap.size, 1, none⟩ = some (.slice la l.length lc) ∧ w'.cell? ⟨w.heap.size + 1, 0, none⟩ = some (.slice none 0 0) ∧ w'.cell? ⟨w.heap.size + 1, 1, none⟩ = some (.slice none 0 0) ∧ w'.cell? ⟨w.heap.size + 1, 2, none⟩ = some (.slice none 0 0) ∧ w'.cell? ⟨w.heap.size + 1, 3, none⟩ = some (.slice none 0 0)) := fun w' hb => ⟨aA hb p0, aA hb p1, aA hb r0, aA hb r1, aA hb r2, aA hb r3⟩
 have HL : Hid (IsTxs W la l) := hl.below hU.out
 have HWe : Hid (W = _) := hWe
 clear p0 p1 r0 r1 r2 r3 hWe
 obtain ⟨hpl, h8⟩ := lS hb
 obtain ⟨h1z, h4z, hcz⟩ := aX hpl
 have h8l := dC hcz
 have R00 := docRW (pk := []) hb (Nat.zero_le (aN sh l)) (fun j _ _ => Nat.zero_le _)
 have hN64 : aN sh l ≤ 64 := R00.few
 clear R00
 have W0 := lV (pk := pk) hb
 have WST : Hid (∀ i, i ≤ aN sh l → eF (sh : Int) l ((aS sh l pk s) i) = 0) := by
  have h := W0.st
  rw [Int.toNat_natCast] at h
  exact h
 have WFM : Hid (∀ i, i ≤ aN sh l → Form sh l ((aS sh l pk s) i)) := fun i hi => by
  obtain ⟨sh', e, _, _, _, _, hf, _⟩ := dL (WST.out i hi)
  have e' : sh' = sh := by omega
  subst e'
  exact dB.1 hf
 have WOV : Hid (∀ i, i ≤ aN sh l → cD sh l ((aS sh l pk s) i) = decide (i = aN sh l)) := fun i hi => by
  have h := W0.ov
  rw [Int.toNat_natCast] at h
  have e : ovE (sh : Int) l ((aS sh l pk s) i) = cD (sh : Int).toNat l ((aS sh l pk s) i) := if_pos (WST.out i hi)
  rw [← h i hi, e, Int.toNat_natCast]
 have WCAN : Hid (∀ i, i < aN sh l → 0 < (bD sh l ((aS sh l pk s) i)).length) := fun i hi => by
  have h := W0.can
  rw [Int.toNat_natCast] at h
  have e : bO (sh : Int) l ((aS sh l pk s) i) = bD (sh : Int).toNat l ((aS sh l pk s) i) := if_pos (WST.out i (by omega))
  rw [Int.toNat_natCast] at e
  rw [← e]
  exact h i hi
 have WRW : Hid (∀ i, i ≤ aN sh l → (∀ j, i ≤ j → j < aN sh l → pk.length ≤ j) → RW sh l (fun j => (aS sh l pk s) (i + j)) (aN sh l - i)) := fun i hi h => docRW hb hi h
 have CC : Hid (Calls Tryz.prog 16 #[.agg #[.int .i64 (sh : Int), .slice la l.length lc]] W fun e w' => e = .returned (.int .i64 0) ∧ Below W.heap.size W w') := by
  have h := fP la lc l (sh : Int) W HL.out
  rw [hpl] at h
  exact h
 have CI : Hid (∀ w', Calls Tryz.prog 17 #[.slice sa s.length sc] w' fun e w'' => e = .returned (.bool true) ∧ w'' = w') := fun w' => by
  have h := jF s sa sc w'
  rw [decide_eq_true h8] at h
  exact h
 have CB : Hid (∀ w', Below W.heap.size W w' → Calls Tryz.prog 18 #[.agg #[.int .i64 (sh : Int), .slice la l.length lc], .slice sa s.length sc] w' fun e w'' => ∃ q : Q4, e = .returned (.agg #[.slice q.sa q.sn q.sc, .slice q.ra q.rn q.rc, .slice q.wa q.wn q.tc, .slice q.va q.vn q.vc]) ∧ StaF w'.heap.size ((aS sh l pk s) 0) q w'' ∧ Below w'.heap.size w' w'') := fun w' hb' => docBegin_any la lc l sa sc s sh w' (HL.out.below hb') ((hs.below hU.out).below hb') hpl h8
 have HP : Hid (aP (sh : Int) l = 0) := hpl
 have HPK : Hid (IsInts W pa pk) := hp.below hU.out
 have HWF : Hid (∀ i, i < pk.length → (Lit.int .i64 (pk.getD i 0)).wf = true) := hw
 have hm' : ¬ (200 : Int) < (pk.length : Int) := by omega
 clear hl hs hp hw hpl h8 hb W0 h1z hcz
 generalize hNe : aN sh l = N at *
 clear hNe
 go_enter Tryz.func31, Tryz.ntmps31
 go_upto_region 1 with fail
 rw [← HWe.out]
 clear HWe
 obtain ⟨p0, p1, r0, r1, r2, r3⟩ := KEEP.out W (Below.refl _ _)
 go_wp2_with fail
 refine CC.out.mono ?_
 rintro e V ⟨rfl, hb1⟩
 clear p0 p1 r0 r1 r2 r3
 obtain ⟨p0, p1, r0, r1, r2, r3⟩ := KEEP.out V hb1
 have rf : ∀ j, V.frozen? ⟨w.heap.size + 1, j, none⟩ = false := fun j => (hb1.frozen (p := ⟨w.heap.size + 1, j, none⟩) (by have := sz.out; show w.heap.size + 1 < _; omega)).trans (RF.out j)
 have BV : Hid (Below W.heap.size W V) := hb1
 clear hb1
 go_wp2_with fail
 refine (CI.out _).mono ?_
 rintro e w2 ⟨rfl, hwe⟩
 subst hwe
 go_wp2_with fail
 refine (CB.out _ BV.out).mono ?_
 rintro e w3 ⟨q, rfl, hq, hb3⟩
 have gA : Below w3.heap.size w3 (w3.alloc (.cells #[.slice q.sa q.sn q.sc, .slice q.ra q.rn q.rc, .slice q.wa q.wn q.tc, .slice q.va q.vn q.vc] 29)) := aB (Below.refl _ _) _
 have B3 : Hid (Below W.heap.size W (w3.alloc (.cells #[.slice q.sa q.sn q.sc, .slice q.ra q.rn q.rc, .slice q.wa q.wn q.tc, .slice q.va q.vn q.vc] 29))) := aC BV.out (aC hb3 gA)
 have O0 : Hid ((w3.alloc (.cells #[.slice q.sa q.sn q.sc, .slice q.ra q.rn q.rc, .slice q.wa q.wn q.tc, .slice q.va q.vn q.vc] 29)).cell? ⟨w3.heap.size, 0, none⟩ = some (.slice q.sa q.sn q.sc) ∧ (w3.alloc (.cells #[.slice q.sa q.sn q.sc, .slice q.ra q.rn q.rc, .slice q.wa q.wn q.tc, .slice q.va q.vn q.vc] 29)).cell? ⟨w3.heap.size, 1, none⟩ = some (.slice q.ra q.rn q.rc) ∧ (w3.alloc (.cells #[.slice q.sa q.sn q.sc, .slice q.ra q.rn q.rc, .slice q.wa q.wn q.tc, .slice q.va q.vn q.vc] 29)).cell? ⟨w3.heap.size, 2, none⟩ = some (.slice q.wa q.wn q.tc) ∧ (w3.alloc (.cells #[.slice q.sa q.sn q.sc, .slice q.ra q.rn q.rc, .slice q.wa q.wn q.tc, .slice q.va q.vn q.vc] 29)).cell? ⟨w3.heap.size, 3, none⟩ = some (.slice q.va q.vn q.vc)) := ⟨aE _ _ 29 _ 0 _ rfl rfl, aE _ _ 29 _ 1 _ rfl rfl, aE _ _ 29 _ 2 _ rfl rfl, aE _ _ 29 _ 3 _ rfl rfl⟩
 have OF0 : Hid (∀ j, (w3.alloc (.cells #[.slice q.sa q.sn q.sc, .slice q.ra q.rn q.rc, .slice q.wa q.wn q.tc, .slice q.va q.vn q.vc] 29)).frozen? ⟨w3.heap.size, j, none⟩ = false) := fun j => aT _ _ 29 _ j rfl
 have K0 : Hid (KO W.heap.size w3.heap.size w3.heap.size ((aS sh l pk s) 0) q (w3.alloc (.cells #[.slice q.sa q.sn q.sc, .slice q.ra q.rn q.rc, .slice q.wa q.wn q.tc, .slice q.va q.vn q.vc] 29))) := (hq.low BV.out.size).ko0 gA
 have HOW : Hid (W.heap.size ≤ w3.heap.size) := (aC BV.out hb3).size
 clear hq hb3 gA p0 p1 r0 r1 r2 r3 rf CC CI CB BV
 go_upto_region 9 with fail
 generalize (w3.alloc (.cells #[.slice q.sa q.sn q.sc, .slice q.ra q.rn q.rc, .slice q.wa q.wn q.tc, .slice q.va q.vn q.vc] 29)) = V at *
 generalize w3.heap.size = O at *
 have HOP : Hid (O ≠ w.heap.size) := by show _ ≠ _; have := sz.out; have := HOW.out; omega
 go_wp2
 go_loopw [11, 12] (fun n c wr => ∃ (i : Nat) (q : Q4), i ≤ N ∧ i ≤ pk.length ∧ n = .int .i64 (i : Nat) ∧ c = .int .i64 (i : Nat) ∧ Hid (wr.cell? ⟨O, 0, none⟩ = some (.slice q.sa q.sn q.sc) ∧ wr.cell? ⟨O, 1, none⟩ = some (.slice q.ra q.rn q.rc) ∧ wr.cell? ⟨O, 2, none⟩ = some (.slice q.wa q.wn q.tc) ∧ wr.cell? ⟨O, 3, none⟩ = some (.slice q.va q.vn q.vc)) ∧ Hid (∀ j, wr.frozen? ⟨O, j, none⟩ = false) ∧ Hid (KO W.heap.size O O ((aS sh l pk s) i) q wr) ∧ Hid (Below W.heap.size W wr)) (fun _ c _ => pk.length - (intOf c).toNat)
 case atStart => exact ⟨0, q, Nat.zero_le _, Nat.zero_le _, rfl, rfl, O0, OF0, K0, B3⟩
 case round =>
  clear O0 OF0 K0 B3
  obtain ⟨i, q, hi, hi2, rfl, rfl, OCC, OF, HK, hB⟩ := hrel
  obtain ⟨o0, o1, o2, o3⟩ := OCC.out
  obtain ⟨p0, p1, r0, r1, r2, r3⟩ := KEEP.out wr hB.out
  have FIN : Hid (∀ w', Below wr.heap.size wr w' → (i = N ∨ i = pk.length) → ∃ K : Nat, (i : Int) + (K : Int) = (N : Int) ∧ Hid (Calls Tryz.prog 77 #[.agg #[.int .i64 (sh : Int), .slice la l.length lc], .agg #[.slice q.sa q.sn q.sc, .slice q.ra q.rn q.rc, .slice q.wa q.wn q.tc, .slice q.va q.vn q.vc]] w' fun e w'' => ∃ q' : Q4, e = .returned (.tuple #[.agg #[.slice q'.sa q'.sn q'.sc, .slice q'.ra q'.rn q'.rc, .slice q'.wa q'.wn q'.tc, .slice q'.va q'.vn q'.vc], .int .i64 (K : Nat)]) ∧ StaF W.heap.size ((aS sh l pk s) N) q' w'' ∧ Below w'.heap.size w' w'')) := fun w' hb' hor => by
   refine ⟨N - i, by omega, ?_⟩
   have h := docRest_any la lc l sh (fun j => (aS sh l pk s) (i + j)) (N - i) q w' (HL.out.below (aC hB.out hb')) W.heap.size (Nat.le_trans hB.out.size hb'.size) (HK.out.below hb').staF HP.out (WRW.out i hi (fun j h1 h2 => by omega))
   have e : i + (N - i) = N := by omega
   simp only [e] at h
   exact h
  by_cases hlt : i < pk.length
  ·have i1 : (i : Int) < (pk.length : Int) := by omega
   have CV : Hid (Calls Tryz.prog 23 #[.agg #[.int .i64 (sh : Int), .slice la l.length lc], .agg #[.slice q.sa q.sn q.sc, .slice q.ra q.rn q.rc, .slice q.wa q.wn q.tc, .slice q.va q.vn q.vc]] wr fun e w' => e = .returned (.bool (decide (i = N))) ∧ Below wr.heap.size wr w') := by
    have h := qH (lc := lc) (HL.out.below hB.out) HK.out.sta HP.out (WFM.out i hi)
    rw [WOV.out i hi] at h
    exact h
   go_wp2_with fail
   refine CV.out.mono ?_
   rintro e U ⟨rfl, hb4⟩
   by_cases hend : i = N
   ·rw [decide_eq_true hend]
    obtain ⟨K, hiK, CRR⟩ := FIN.out U hb4 (Or.inl hend)
    have BU : Hid (Below W.heap.size W U) := aC hB.out hb4
    clear FIN CV
    have o0 := aA hb4 o0
    have o1 := aA hb4 o1
    have o2 := aA hb4 o2
    have o3 := aA hb4 o3
    have p0 := aA hb4 p0
    have p1 := aA hb4 p1
    clear hb4 hlt hend HK OCC OF hB
    go_wp2_with fail
    refine CRR.out.mono ?_
    rintro e w6 ⟨q', rfl, hq', hb6⟩
    have gA : Below w6.heap.size w6 (w6.alloc (.cells #[.slice q'.sa q'.sn q'.sc, .slice q'.ra q'.rn q'.rc, .slice q'.wa q'.wn q'.tc, .slice q'.va q'.vn q'.vc] 29)) := aB (Below.refl _ _) _
    have B6 : Hid (Below W.heap.size W (w6.alloc (.cells #[.slice q'.sa q'.sn q'.sc, .slice q'.ra q'.rn q'.rc, .slice q'.wa q'.wn q'.tc, .slice q'.va q'.vn q'.vc] 29))) := aC BU.out (aC hb6 gA)
    have HQ : Hid (StaF W.heap.size ((aS sh l pk s) N) q' (w6.alloc (.cells #[.slice q'.sa q'.sn q'.sc, .slice q'.ra q'.rn q'.rc, .slice q'.wa q'.wn q'.tc, .slice q'.va q'.vn q'.vc] 29))) := hq'.below gA
    have t0 : (w6.alloc (.cells #[.slice q'.sa q'.sn q'.sc, .slice q'.ra q'.rn q'.rc, .slice q'.wa q'.wn q'.tc, .slice q'.va q'.vn q'.vc] 29)).cell? ⟨w6.heap.size, 0, none⟩ = some (.slice q'.sa q'.sn q'.sc) := aE _ _ 29 _ 0 _ rfl rfl
    have t1 : (w6.alloc (.cells #[.slice q'.sa q'.sn q'.sc, .slice q'.ra q'.rn q'.rc, .slice q'.wa q'.wn q'.tc, .slice q'.va q'.vn q'.vc] 29)).cell? ⟨w6.heap.size, 1, none⟩ = some (.slice q'.ra q'.rn q'.rc) := aE _ _ 29 _ 1 _ rfl rfl
    have t2 : (w6.alloc (.cells #[.slice q'.sa q'.sn q'.sc, .slice q'.ra q'.rn q'.rc, .slice q'.wa q'.wn q'.tc, .slice q'.va q'.vn q'.vc] 29)).cell? ⟨w6.heap.size, 2, none⟩ = some (.slice q'.wa q'.wn q'.tc) := aE _ _ 29 _ 2 _ rfl rfl
    have t3 : (w6.alloc (.cells #[.slice q'.sa q'.sn q'.sc, .slice q'.ra q'.rn q'.rc, .slice q'.wa q'.wn q'.tc, .slice q'.va q'.vn q'.vc] 29)).cell? ⟨w6.heap.size, 3, none⟩ = some (.slice q'.va q'.vn q'.vc) := aE _ _ 29 _ 3 _ rfl rfl
    clear hq' hb6 gA CRR p0 p1 r0 r1 r2 r3 o0 o1 o2 o3 BU
    go_upto_region 20 with fail
    generalize (w6.alloc (.cells #[.slice q'.sa q'.sn q'.sc, .slice q'.ra q'.rn q'.rc, .slice q'.wa q'.wn q'.tc, .slice q'.va q'.vn q'.vc] 29)) = Y at *
    generalize w6.heap.size = T at *
    obtain ⟨p0, p1, r0, r1, r2, r3⟩ := KEEP.out Y B6.out
    have rf : ∀ j, Y.frozen? ⟨w.heap.size + 1, j, none⟩ = false := fun j => (B6.out.frozen (p := ⟨w.heap.size + 1, j, none⟩) (by have := sz.out; show w.heap.size + 1 < _; omega)).trans (RF.out j)
    obtain ⟨y0, y1, y2, y3⟩ := kZ q' r0 r1 r2 r3
    have hRW : w.heap.size + 1 < W.heap.size := by have := sz.out; omega
    have FS : Hid (StaF w.heap.size ((aS sh l pk s) N) q' ((((Y.setCell ⟨w.heap.size + 1, 0, none⟩ (.slice q'.sa q'.sn q'.sc)).setCell ⟨w.heap.size + 1, 1, none⟩ (.slice q'.ra q'.rn q'.rc)).setCell ⟨w.heap.size + 1, 2, none⟩ (.slice q'.wa q'.wn q'.tc)).setCell ⟨w.heap.size + 1, 3, none⟩ (.slice q'.va q'.vn q'.vc))) := ((((HQ.out.set _ 0 _ hRW).set _ 1 _ hRW).set _ 2 _ hRW).set _ 3 _ hRW).low hU.out.size
    have FB : Hid (Below w.heap.size w ((((Y.setCell ⟨w.heap.size + 1, 0, none⟩ (.slice q'.sa q'.sn q'.sc)).setCell ⟨w.heap.size + 1, 1, none⟩ (.slice q'.ra q'.rn q'.rc)).setCell ⟨w.heap.size + 1, 2, none⟩ (.slice q'.wa q'.wn q'.tc)).setCell ⟨w.heap.size + 1, 3, none⟩ (.slice q'.va q'.vn q'.vc))) := aG (aG (aG (aG (aC hU.out B6.out) (by simp) _) (by simp) _) (by simp) _) (by simp) _
    clear HQ hRW
    go_wp2
    refine bodyPost_ret (v := .tuple #[.agg #[.slice q'.sa q'.sn q'.sc, .slice q'.ra q'.rn q'.rc, .slice q'.wa q'.wn q'.tc, .slice q'.va q'.vn q'.vc], .int .i64 (N : Nat), .int .i64 0]) (by simp [results, Tryz.results31, go_sem, y0, y1, y2, y3]) rfl ⟨q', rfl, FS.out, FB.out⟩
   ·rw [decide_eq_false hend]
    have hltN : i < N := by omega
    have hx : IsInts U pa pk := HPK.out.below (aC hB.out hb4)
    obtain ⟨pb, po, ep, _, d⟩ := hx i hlt
    obtain ⟨x1', x2'⟩ := pO (HWF.out i hlt)
    have CN : Hid (Calls Tryz.prog 25 #[.agg #[.int .i64 (sh : Int), .slice la l.length lc], .agg #[.slice q.sa q.sn q.sc, .slice q.ra q.rn q.rc, .slice q.wa q.wn q.tc, .slice q.va q.vn q.vc]] U fun e w'' => ∃ a c, e = .returned (.slice a (bD sh l ((aS sh l pk s) i)).length c) ∧ eE w'' a (bD sh l ((aS sh l pk s) i)) ∧ Below U.heap.size U w'') := docCan_q (HL.out.below (aC hB.out hb4)) (HK.out.below hb4).sta HP.out (WFM.out i hi)
    have hL0 := WCAN.out i hltN
    have hL64 : (bD sh l ((aS sh l pk s) i)).length ≤ 64 := oY _ _ _ h8l (by omega)
    have hKlt := pT pk i (bD sh l ((aS sh l pk s) i)).length hL0
    have hKe : fK pk i (bD sh l ((aS sh l pk s) i)).length = if pk.getD i 0 < 0 then (-(pk.getD i 0 + 1)).toNat % (bD sh l ((aS sh l pk s) i)).length else (pk.getD i 0).toNat % (bD sh l ((aS sh l pk s) i)).length := if_pos hlt
    have hmem : (bD sh l ((aS sh l pk s) i)).getD (fK pk i (bD sh l ((aS sh l pk s) i)).length) (0, 0, 0) ∈ bD sh l ((aS sh l pk s) i) := by simp [List.getD, hKlt]
    have hnx : (aS sh l pk s) (i + 1) = doX sh l ((aS sh l pk s) i) ((bD sh l ((aS sh l pk s) i)).getD (fK pk i (bD sh l ((aS sh l pk s) i)).length) (0, 0, 0)).1 ((bD sh l ((aS sh l pk s) i)).getD (fK pk i (bD sh l ((aS sh l pk s) i)).length) (0, 0, 0)).2.1 ((bD sh l ((aS sh l pk s) i)).getD (fK pk i (bD sh l ((aS sh l pk s) i)).length) (0, 0, 0)).2.2 := rfl
    obtain ⟨m1, m2, m3, _⟩ := fD.1 hmem
    generalize fK pk i (bD sh l ((aS sh l pk s) i)).length = K at *
    have CD0 : Hid (∀ w', Below wr.heap.size wr w' → Calls Tryz.prog 71 #[.agg #[.int .i64 (sh : Int), .slice la l.length lc], .agg #[.slice q.sa q.sn q.sc, .slice q.ra q.rn q.rc, .slice q.wa q.wn q.tc, .slice q.va q.vn q.vc], .agg #[.int .i64 (((bD sh l ((aS sh l pk s) i)).getD K (0, 0, 0)).1 : Nat), .int .i64 (((bD sh l ((aS sh l pk s) i)).getD K (0, 0, 0)).2.1 : Nat), .int .i64 (((bD sh l ((aS sh l pk s) i)).getD K (0, 0, 0)).2.2 : Nat)]] w' fun e w'' => ∃ q' : Q4, e = .returned (.agg #[.slice q'.sa q'.sn q'.sc, .slice q'.ra q'.rn q'.rc, .slice q'.wa q'.wn q'.tc, .slice q'.va q'.vn q'.vc]) ∧ StaF w'.heap.size ((aS sh l pk s) (i + 1)) q' w'' ∧ Below w'.heap.size w' w'') := fun w' hb' => by
     rw [hnx]
     exact qI (lc := lc) (HL.out.below (aC hB.out hb')) (HK.out.below hb').sta HP.out (WFM.out i hi) m1 m2 m3
    clear hmem hnx m1 m2 m3 CV
    generalize bD sh l ((aS sh l pk s) i) = L at *
    generalize pk.getD i 0 = x at *
    subst ep
    have o0 := aA hb4 o0
    have o1 := aA hb4 o1
    have o2 := aA hb4 o2
    have o3 := aA hb4 o3
    have p0 := aA hb4 p0
    have p1 := aA hb4 p1
    have of4 : ∀ j, U.frozen? ⟨O, j, none⟩ = false := fun j => (hb4.frozen (p := ⟨O, j, none⟩) (World.block_lt_of_cell? wr ⟨O, 0, none⟩ (OCC.out.1))).trans (OF.out j)
    clear r0 r1 r2 r3 hx
    go_wp2_with fail
    refine CN.out.mono ?_
    rintro e U2 ⟨a, c, rfl, hsp, hb5⟩
    obtain ⟨sb, so, es, hsl, s0, s1, s2⟩ := hsp K hKlt
    subst es
    have o0 := aA hb5 o0
    have o1 := aA hb5 o1
    have o2 := aA hb5 o2
    have o3 := aA hb5 o3
    have p0 := aA hb5 p0
    have p1 := aA hb5 p1
    have d := aA hb5 d
    have of_ : ∀ j, U2.frozen? ⟨O, j, none⟩ = false := fun j => (hb5.frozen (p := ⟨O, j, none⟩) (Nat.lt_of_lt_of_le (World.block_lt_of_cell? wr ⟨O, 0, none⟩ (OCC.out.1)) hb4.size)).trans (of4 j)
    have BU : Hid (Below W.heap.size W U2) := aC hB.out (aC hb4 hb5)
    have CD : Hid (∀ w', Below U2.heap.size U2 w' → Calls Tryz.prog 71 #[.agg #[.int .i64 (sh : Int), .slice la l.length lc], .agg #[.slice q.sa q.sn q.sc, .slice q.ra q.rn q.rc, .slice q.wa q.wn q.tc, .slice q.va q.vn q.vc], .agg #[.int .i64 ((L.getD K (0, 0, 0)).1 : Nat), .int .i64 ((L.getD K (0, 0, 0)).2.1 : Nat), .int .i64 ((L.getD K (0, 0, 0)).2.2 : Nat)]] w' fun e w'' => ∃ q' : Q4, e = .returned (.agg #[.slice q'.sa q'.sn q'.sc, .slice q'.ra q'.rn q'.rc, .slice q'.wa q'.wn q'.tc, .slice q'.va q'.vn q'.vc]) ∧ StaF w'.heap.size ((aS sh l pk s) (i + 1)) q' w'' ∧ Below w'.heap.size w' w'') := fun w' hb' => CD0.out w' (aC hb4 (aC hb5 hb'))
    clear CD0 hb4 hb5 hsp of4 HK OCC OF hB CN FIN
    generalize ((L.getD K (0, 0, 0)).1 : Nat) = x1 at *
    generalize ((L.getD K (0, 0, 0)).2.1 : Nat) = x2 at *
    generalize ((L.getD K (0, 0, 0)).2.2 : Nat) = x3 at *
    have hLne : ¬ L = [] := fun e => by rw [e] at hL0; exact absurd hL0 (by simp)
    have hKi : (K : Int) < (L.length : Int) := by omega
    by_cases hx : x < 0
    ·rw [if_pos hx] at hKe
     have y0' : 0 ≤ -(x + 1) := by omega
     have y2' : -(x + 1) ≤ 9223372036854775807 := by omega
     have hmod : (-(x + 1)) % (L.length : Int) = (K : Int) := by
      rw [hKe, Int.natCast_emod, Int.toNat_of_nonneg y0']
     obtain ⟨y, hy⟩ : ∃ y, -(x + 1) = y := ⟨_, rfl⟩
     rw [hy] at hmod y0' y2'
     have htm : y.tmod (L.length : Int) = (K : Int) := by rw [Int.tmod_eq_emod_of_nonneg y0']; exact hmod
     clear hmod hKe
     go_upto_region 17 with fail
     clear hy x1' x2' d
     have KS : Hid (∀ w', Below U2.heap.size U2 w' → w'.cell? ⟨w.heap.size, 0, none⟩ = some (.int .i64 (sh : Int)) ∧ w'.cell? ⟨w.heap.size, 1, none⟩ = some (.slice la l.length lc)) := fun w' hb => ⟨aA hb p0, aA hb p1⟩
     clear p0 p1
     refine wp_region_held_drew (S := (fun w' => w'.cell? ⟨w.heap.size, 0, none⟩ = some (.int .i64 (sh : Int)) ∧ w'.cell? ⟨w.heap.size, 1, none⟩ = some (.slice la l.length lc))) (by kernel_rfl) ?_ (fun hHeld => ?_)
     ·exact KS.out _ (aD (Below.refl _ _))
     refine tk (i := 0) (oi := { dst := some 58, op := .load 24 (.tmp 3), type := 24, pos := "steps.go:222", after := #[], guard := none }) (v := ?_) rfl (by kernel_rfl) (by kernel_rfl) (by kernel_rfl) (fun _ _ _ h => h) (by rfl) (by assumption) ?_ ?_; rotate_left; focus (intro w hSw; go_simp; first | done | with_reducible rfl)
     try simp only [Act.put, List.setIfInBounds_toArray, List.set_cons_zero, List.set_cons_succ]
     refine tk (i := 2) (oi := { dst := some 60, op := .move (.tmp 13), type := 43, pos := "steps.go:222", after := #[], guard := none }) (v := ?_) rfl (by kernel_rfl) (by kernel_rfl) (by kernel_rfl) (fun _ _ _ h => h) (by rfl) (by assumption) ?_ ?_; rotate_left; focus (intro w hSw; go_simp; first | done | with_reducible rfl)
     try simp only [Act.put, List.setIfInBounds_toArray, List.set_cons_zero, List.set_cons_succ]
     refine tk (i := 3) (oi := { dst := some 61, op := .move (.tmp 14), type := 3, pos := "steps.go:222", after := #[], guard := none }) (v := ?_) rfl (by kernel_rfl) (by kernel_rfl) (by kernel_rfl) (fun _ _ _ h => h) (by rfl) (by assumption) ?_ ?_; rotate_left; focus (intro w hSw; go_simp; first | done | with_reducible rfl)
     try simp only [Act.put, List.setIfInBounds_toArray, List.set_cons_zero, List.set_cons_succ]
     refine tk (i := 4) (oi := { dst := some 62, op := .move (.tmp 13), type := 43, pos := "steps.go:222", after := #[], guard := none }) (v := ?_) rfl (by kernel_rfl) (by kernel_rfl) (by kernel_rfl) (fun _ _ _ h => h) (by rfl) (by assumption) ?_ ?_; rotate_left; focus (intro w hSw; go_simp; first | done | with_reducible rfl)
     try simp only [Act.put, List.setIfInBounds_toArray, List.set_cons_zero, List.set_cons_succ]
     refine tk (i := 5) (oi := { dst := some 63, op := .call { callee := .builtin .len, args := #[.tmp 62], argTypes := #[43] }, type := 3, pos := "steps.go:222", after := #[{ on := 4, ground := .data }], guard := none }) (v := ?_) rfl (by kernel_rfl) (by kernel_rfl) (by kernel_rfl) (fun _ _ _ h => h) (by rfl) (by assumption) ?_ ?_; rotate_left; focus (intro w hSw; go_simp; first | done | with_reducible rfl)
     try simp only [Act.put, List.setIfInBounds_toArray, List.set_cons_zero, List.set_cons_succ]
     refine tk (i := 6) (oi := { dst := some 64, op := .binOp .rem 3 (.tmp 61) (.tmp 63) 3, type := 3, pos := "steps.go:222", after := #[{ on := 3, ground := .data }, { on := 5, ground := .data }], guard := none }) (v := ?_) rfl (by kernel_rfl) (by kernel_rfl) (by kernel_rfl) (fun _ _ _ h => h) (by rfl) (by assumption) ?_ ?_; rotate_left; focus (intro w hSw; go_simp; first | done | with_reducible rfl)
     try simp only [Act.put, List.setIfInBounds_toArray, List.set_cons_zero, List.set_cons_succ]
     refine tk (i := 7) (oi := { dst := some 65, op := .indexAddr 43 (.tmp 60) (.tmp 64), type := 0, pos := "steps.go:222", after := #[{ on := 2, ground := .data }, { on := 6, ground := .data }], guard := none }) (v := ?_) rfl (by kernel_rfl) (by kernel_rfl) (by kernel_rfl) (fun _ _ _ h => h) (by rfl) (by assumption) ?_ ?_; rotate_left; focus (intro w hSw; go_simp; first | done | with_reducible rfl)
     try simp only [Act.put, List.setIfInBounds_toArray, List.set_cons_zero, List.set_cons_succ]
     refine wpAnyH_ready (rs := [1, 8]) (by kernel_rfl) (by simp) ?_
     refine AllReadyH.cons (o := { dst := some 59, op := .load 29 (.tmp 10), type := 29, pos := "steps.go:222", after := #[], guard := none }) rfl (fun K hK => ?_) (AllReadyH.cons (o := { dst := some 66, op := .load 48 (.tmp 65), type := 48, pos := "steps.go:222", after := #[{ on := 7, ground := .data }], guard := none }) rfl (fun K hK => ?_) (AllReadyH.nil))
     ·go_simp
      have n0 := aA (aD (Below.refl _ _)) o0
      have n1 := aA (aD (Below.refl _ _)) o1
      have n2 := aA (aD (Below.refl _ _)) o2
      have n3 := aA (aD (Below.refl _ _)) o3
      go_simp
      clear n0 n1 n2 n3
      clear hHeld
      refine hK.out _ _ (KS.out _ (aD (Below.refl _ _))) (fun hHeld => ?_)
      clear hK K
      refine wpAnyH_ready (rs := [8]) (by kernel_rfl) (by simp) ?_
      refine AllReadyH.cons (o := { dst := some 66, op := .load 48 (.tmp 65), type := 48, pos := "steps.go:222", after := #[{ on := 7, ground := .data }], guard := none }) rfl (fun K hK => ?_) (AllReadyH.nil)
      go_simp
      have n0 := aA (aD (Below.refl _ _)) s0
      have n1 := aA (aD (Below.refl _ _)) s1
      have n2 := aA (aD (Below.refl _ _)) s2
      go_simp
      clear n0 n1 n2
      clear hHeld
      refine hK.out _ _ (KS.out _ (aD (Below.refl _ _))) (fun hHeld => ?_)
      clear hK K
      refine wpAnyH_ready (rs := [9]) (by kernel_rfl) (by simp) ?_
      refine AllReadyH.cons (o := { dst := some 67, op := .call { callee := .value (.func 71), args := #[.tmp 58, .tmp 59, .tmp 66], argTypes := #[24, 29, 48] }, type := 29, pos := "steps.go:222", after := #[{ on := 0, ground := .data }, { on := 1, ground := .data }, { on := 8, ground := .data }], guard := none }) rfl (fun K hK => ?_) (AllReadyH.nil)
      go_simp
      go_wp2_with (go_at_call 71; refine (CD.out _ (aD (Below.refl _ _))).mono ?_; rintro e w4 ⟨q5, rfl, h5, hb4⟩)
      have B4 : Hid (Below U2.heap.size U2 w4) := aC (aD (Below.refl _ _)) hb4
      have z0 := aA B4.out o0
      have z1 := aA B4.out o1
      have z2 := aA B4.out o2
      have z3 := aA B4.out o3
      have zf : ∀ j, w4.frozen? ⟨O, j, none⟩ = false := fun j => (B4.out.frozen (p := ⟨O, j, none⟩) (World.block_lt_of_cell? U2 ⟨O, 0, none⟩ o0)).trans (of_ j)
      have hOU : O < U2.heap.size := World.block_lt_of_cell? U2 ⟨O, 0, none⟩ o0
      obtain ⟨YY, PFz, HK5, BP⟩ := eJ (lo := W.heap.size) (R0 := O) BU.out B4.out HOW.out o0 o1 o2 o3 of_ h5 (show W.heap.size ≤ U2.heap.size by have := HOW.out; omega) (Nat.le_refl _) (Nat.le_refl _) hOU
      have PF : Hid (((((w4.setCell ⟨O, 0, none⟩ (.slice q5.sa q5.sn q5.sc)).setCell ⟨O, 1, none⟩ (.slice q5.ra q5.rn q5.rc)).setCell ⟨O, 2, none⟩ (.slice q5.wa q5.wn q5.tc)).setCell ⟨O, 3, none⟩ (.slice q5.va q5.vn q5.vc)).cell? ⟨w.heap.size, 0, none⟩ = some (.int .i64 (sh : Int)) ∧ ((((w4.setCell ⟨O, 0, none⟩ (.slice q5.sa q5.sn q5.sc)).setCell ⟨O, 1, none⟩ (.slice q5.ra q5.rn q5.rc)).setCell ⟨O, 2, none⟩ (.slice q5.wa q5.wn q5.tc)).setCell ⟨O, 3, none⟩ (.slice q5.va q5.vn q5.vc)).cell? ⟨w.heap.size, 1, none⟩ = some (.slice la l.length lc)) := ⟨aO HOP.out (KS.out _ B4.out).1, aO HOP.out (KS.out _ B4.out).2⟩
      clear hHeld
      refine hK.out _ _ (KS.out _ B4.out) (fun hHeld => ?_)
      clear hK K
      refine wpAnyH_ready (rs := [10]) (by kernel_rfl) (by simp) ?_
      refine AllReadyH.cons (o := { dst := none, op := .store 29 (.tmp 10) (.tmp 67), type := 0, pos := "steps.go:222", after := #[{ on := 9, ground := .data }, { on := 9, ground := .chain }, { on := 0, ground := .phase }, { on := 1, ground := .phase }, { on := 2, ground := .phase }, { on := 3, ground := .phase }, { on := 4, ground := .phase }, { on := 5, ground := .phase }, { on := 6, ground := .phase }, { on := 7, ground := .phase }, { on := 8, ground := .phase }, { on := 9, ground := .phase }], guard := none }) rfl (fun K hK => ?_) (AllReadyH.nil)
      go_simp
      skip
      clear hHeld
      refine hK.out _ _ (PF.out) (fun hHeld => ?_)
      clear hK K
      refine wpAnyH_done (by kernel_rfl) ?_ _
      clear hHeld KS CD z0 z1 z2 z3 zf s0 s1 s2 o0 o1 o2 o3
      go_wp2
      go_roundw
      case rel => exact ⟨i + 1, q5, by omega, by omega, by go_num, by go_num, YY, PFz, HK5, BP⟩
      case measure => simp [intOf]; omega
     ·go_simp
      have n0 := aA (aD (Below.refl _ _)) s0
      have n1 := aA (aD (Below.refl _ _)) s1
      have n2 := aA (aD (Below.refl _ _)) s2
      go_simp
      clear n0 n1 n2
      clear hHeld
      refine hK.out _ _ (KS.out _ (aD (Below.refl _ _))) (fun hHeld => ?_)
      clear hK K
      refine wpAnyH_ready (rs := [1]) (by kernel_rfl) (by simp) ?_
      refine AllReadyH.cons (o := { dst := some 59, op := .load 29 (.tmp 10), type := 29, pos := "steps.go:222", after := #[], guard := none }) rfl (fun K hK => ?_) (AllReadyH.nil)
      go_simp
      have n0 := aA (aD (Below.refl _ _)) o0
      have n1 := aA (aD (Below.refl _ _)) o1
      have n2 := aA (aD (Below.refl _ _)) o2
      have n3 := aA (aD (Below.refl _ _)) o3
      go_simp
      clear n0 n1 n2 n3
      clear hHeld
      refine hK.out _ _ (KS.out _ (aD (Below.refl _ _))) (fun hHeld => ?_)
      clear hK K
      refine wpAnyH_ready (rs := [9]) (by kernel_rfl) (by simp) ?_
      refine AllReadyH.cons (o := { dst := some 67, op := .call { callee := .value (.func 71), args := #[.tmp 58, .tmp 59, .tmp 66], argTypes := #[24, 29, 48] }, type := 29, pos := "steps.go:222", after := #[{ on := 0, ground := .data }, { on := 1, ground := .data }, { on := 8, ground := .data }], guard := none }) rfl (fun K hK => ?_) (AllReadyH.nil)
      go_simp
      go_wp2_with (go_at_call 71; refine (CD.out _ (aD (Below.refl _ _))).mono ?_; rintro e w4 ⟨q5, rfl, h5, hb4⟩)
      have B4 : Hid (Below U2.heap.size U2 w4) := aC (aD (Below.refl _ _)) hb4
      have z0 := aA B4.out o0
      have z1 := aA B4.out o1
      have z2 := aA B4.out o2
      have z3 := aA B4.out o3
      have zf : ∀ j, w4.frozen? ⟨O, j, none⟩ = false := fun j => (B4.out.frozen (p := ⟨O, j, none⟩) (World.block_lt_of_cell? U2 ⟨O, 0, none⟩ o0)).trans (of_ j)
      have hOU : O < U2.heap.size := World.block_lt_of_cell? U2 ⟨O, 0, none⟩ o0
      obtain ⟨YY, PFz, HK5, BP⟩ := eJ (lo := W.heap.size) (R0 := O) BU.out B4.out HOW.out o0 o1 o2 o3 of_ h5 (show W.heap.size ≤ U2.heap.size by have := HOW.out; omega) (Nat.le_refl _) (Nat.le_refl _) hOU
      have PF : Hid (((((w4.setCell ⟨O, 0, none⟩ (.slice q5.sa q5.sn q5.sc)).setCell ⟨O, 1, none⟩ (.slice q5.ra q5.rn q5.rc)).setCell ⟨O, 2, none⟩ (.slice q5.wa q5.wn q5.tc)).setCell ⟨O, 3, none⟩ (.slice q5.va q5.vn q5.vc)).cell? ⟨w.heap.size, 0, none⟩ = some (.int .i64 (sh : Int)) ∧ ((((w4.setCell ⟨O, 0, none⟩ (.slice q5.sa q5.sn q5.sc)).setCell ⟨O, 1, none⟩ (.slice q5.ra q5.rn q5.rc)).setCell ⟨O, 2, none⟩ (.slice q5.wa q5.wn q5.tc)).setCell ⟨O, 3, none⟩ (.slice q5.va q5.vn q5.vc)).cell? ⟨w.heap.size, 1, none⟩ = some (.slice la l.length lc)) := ⟨aO HOP.out (KS.out _ B4.out).1, aO HOP.out (KS.out _ B4.out).2⟩
      clear hHeld
      refine hK.out _ _ (KS.out _ B4.out) (fun hHeld => ?_)
      clear hK K
      refine wpAnyH_ready (rs := [10]) (by kernel_rfl) (by simp) ?_
      refine AllReadyH.cons (o := { dst := none, op := .store 29 (.tmp 10) (.tmp 67), type := 0, pos := "steps.go:222", after := #[{ on := 9, ground := .data }, { on := 9, ground := .chain }, { on := 0, ground := .phase }, { on := 1, ground := .phase }, { on := 2, ground := .phase }, { on := 3, ground := .phase }, { on := 4, ground := .phase }, { on := 5, ground := .phase }, { on := 6, ground := .phase }, { on := 7, ground := .phase }, { on := 8, ground := .phase }, { on := 9, ground := .phase }], guard := none }) rfl (fun K hK => ?_) (AllReadyH.nil)
      go_simp
      skip
      clear hHeld
      refine hK.out _ _ (PF.out) (fun hHeld => ?_)
      clear hK K
      refine wpAnyH_done (by kernel_rfl) ?_ _
      clear hHeld KS CD z0 z1 z2 z3 zf s0 s1 s2 o0 o1 o2 o3
      go_wp2
      go_roundw
      case rel => exact ⟨i + 1, q5, by omega, by omega, by go_num, by go_num, YY, PFz, HK5, BP⟩
      case measure => simp [intOf]; omega
    ·rw [if_neg hx] at hKe
     have y0' : 0 ≤ x := by omega
     have hmod : x % (L.length : Int) = (K : Int) := by
      rw [hKe, Int.natCast_emod, Int.toNat_of_nonneg y0']
     have htm : x.tmod (L.length : Int) = (K : Int) := by rw [Int.tmod_eq_emod_of_nonneg y0']; exact hmod
     clear hmod hKe
     go_upto_region 17 with fail
     have KS : Hid (∀ w', Below U2.heap.size U2 w' → w'.cell? ⟨w.heap.size, 0, none⟩ = some (.int .i64 (sh : Int)) ∧ w'.cell? ⟨w.heap.size, 1, none⟩ = some (.slice la l.length lc)) := fun w' hb => ⟨aA hb p0, aA hb p1⟩
     clear p0 p1
     refine wp_region_held_drew (S := (fun w' => w'.cell? ⟨w.heap.size, 0, none⟩ = some (.int .i64 (sh : Int)) ∧ w'.cell? ⟨w.heap.size, 1, none⟩ = some (.slice la l.length lc))) (by kernel_rfl) ?_ (fun hHeld => ?_)
     ·exact KS.out _ (aD (Below.refl _ _))
     refine tk (i := 0) (oi := { dst := some 58, op := .load 24 (.tmp 3), type := 24, pos := "steps.go:222", after := #[], guard := none }) (v := ?_) rfl (by kernel_rfl) (by kernel_rfl) (by kernel_rfl) (fun _ _ _ h => h) (by rfl) (by assumption) ?_ ?_; rotate_left; focus (intro w hSw; go_simp; first | done | with_reducible rfl)
     try simp only [Act.put, List.setIfInBounds_toArray, List.set_cons_zero, List.set_cons_succ]
     refine tk (i := 2) (oi := { dst := some 60, op := .move (.tmp 13), type := 43, pos := "steps.go:222", after := #[], guard := none }) (v := ?_) rfl (by kernel_rfl) (by kernel_rfl) (by kernel_rfl) (fun _ _ _ h => h) (by rfl) (by assumption) ?_ ?_; rotate_left; focus (intro w hSw; go_simp; first | done | with_reducible rfl)
     try simp only [Act.put, List.setIfInBounds_toArray, List.set_cons_zero, List.set_cons_succ]
     refine tk (i := 3) (oi := { dst := some 61, op := .move (.tmp 14), type := 3, pos := "steps.go:222", after := #[], guard := none }) (v := ?_) rfl (by kernel_rfl) (by kernel_rfl) (by kernel_rfl) (fun _ _ _ h => h) (by rfl) (by assumption) ?_ ?_; rotate_left; focus (intro w hSw; go_simp; first | done | with_reducible rfl)
     try simp only [Act.put, List.setIfInBounds_toArray, List.set_cons_zero, List.set_cons_succ]
     refine tk (i := 4) (oi := { dst := some 62, op := .move (.tmp 13), type := 43, pos := "steps.go:222", after := #[], guard := none }) (v := ?_) rfl (by kernel_rfl) (by kernel_rfl) (by kernel_rfl) (fun _ _ _ h => h) (by rfl) (by assumption) ?_ ?_; rotate_left; focus (intro w hSw; go_simp; first | done | with_reducible rfl)
     try simp only [Act.put, List.setIfInBounds_toArray, List.set_cons_zero, List.set_cons_succ]
     refine tk (i := 5) (oi := { dst := some 63, op := .call { callee := .builtin .len, args := #[.tmp 62], argTypes := #[43] }, type := 3, pos := "steps.go:222", after := #[{ on := 4, ground := .data }], guard := none }) (v := ?_) rfl (by kernel_rfl) (by kernel_rfl) (by kernel_rfl) (fun _ _ _ h => h) (by rfl) (by assumption) ?_ ?_; rotate_left; focus (intro w hSw; go_simp; first | done | with_reducible rfl)
     try simp only [Act.put, List.setIfInBounds_toArray, List.set_cons_zero, List.set_cons_succ]
     refine tk (i := 6) (oi := { dst := some 64, op := .binOp .rem 3 (.tmp 61) (.tmp 63) 3, type := 3, pos := "steps.go:222", after := #[{ on := 3, ground := .data }, { on := 5, ground := .data }], guard := none }) (v := ?_) rfl (by kernel_rfl) (by kernel_rfl) (by kernel_rfl) (fun _ _ _ h => h) (by rfl) (by assumption) ?_ ?_; rotate_left; focus (intro w hSw; go_simp; first | done | with_reducible rfl)
     try simp only [Act.put, List.setIfInBounds_toArray, List.set_cons_zero, List.set_cons_succ]
     refine tk (i := 7) (oi := { dst := some 65, op := .indexAddr 43 (.tmp 60) (.tmp 64), type := 0, pos := "steps.go:222", after := #[{ on := 2, ground := .data }, { on := 6, ground := .data }], guard := none }) (v := ?_) rfl (by kernel_rfl) (by kernel_rfl) (by kernel_rfl) (fun _ _ _ h => h) (by rfl) (by assumption) ?_ ?_; rotate_left; focus (intro w hSw; go_simp; first | done | with_reducible rfl)
     try simp only [Act.put, List.setIfInBounds_toArray, List.set_cons_zero, List.set_cons_succ]
     refine wpAnyH_ready (rs := [1, 8]) (by kernel_rfl) (by simp) ?_
     refine AllReadyH.cons (o := { dst := some 59, op := .load 29 (.tmp 10), type := 29, pos := "steps.go:222", after := #[], guard := none }) rfl (fun K hK => ?_) (AllReadyH.cons (o := { dst := some 66, op := .load 48 (.tmp 65), type := 48, pos := "steps.go:222", after := #[{ on := 7, ground := .data }], guard := none }) rfl (fun K hK => ?_) (AllReadyH.nil))
     ·go_simp
      have n0 := aA (aD (Below.refl _ _)) o0
      have n1 := aA (aD (Below.refl _ _)) o1
      have n2 := aA (aD (Below.refl _ _)) o2
      have n3 := aA (aD (Below.refl _ _)) o3
      go_simp
      clear n0 n1 n2 n3
      clear hHeld
      refine hK.out _ _ (KS.out _ (aD (Below.refl _ _))) (fun hHeld => ?_)
      clear hK K
      refine wpAnyH_ready (rs := [8]) (by kernel_rfl) (by simp) ?_
      refine AllReadyH.cons (o := { dst := some 66, op := .load 48 (.tmp 65), type := 48, pos := "steps.go:222", after := #[{ on := 7, ground := .data }], guard := none }) rfl (fun K hK => ?_) (AllReadyH.nil)
      go_simp
      have n0 := aA (aD (Below.refl _ _)) s0
      have n1 := aA (aD (Below.refl _ _)) s1
      have n2 := aA (aD (Below.refl _ _)) s2
      go_simp
      clear n0 n1 n2
      clear hHeld
      refine hK.out _ _ (KS.out _ (aD (Below.refl _ _))) (fun hHeld => ?_)
      clear hK K
      refine wpAnyH_ready (rs := [9]) (by kernel_rfl) (by simp) ?_
      refine AllReadyH.cons (o := { dst := some 67, op := .call { callee := .value (.func 71), args := #[.tmp 58, .tmp 59, .tmp 66], argTypes := #[24, 29, 48] }, type := 29, pos := "steps.go:222", after := #[{ on := 0, ground := .data }, { on := 1, ground := .data }, { on := 8, ground := .data }], guard := none }) rfl (fun K hK => ?_) (AllReadyH.nil)
      go_simp
      go_wp2_with (go_at_call 71; refine (CD.out _ (aD (Below.refl _ _))).mono ?_; rintro e w4 ⟨q5, rfl, h5, hb4⟩)
      have B4 : Hid (Below U2.heap.size U2 w4) := aC (aD (Below.refl _ _)) hb4
      have z0 := aA B4.out o0
      have z1 := aA B4.out o1
      have z2 := aA B4.out o2
      have z3 := aA B4.out o3
      have zf : ∀ j, w4.frozen? ⟨O, j, none⟩ = false := fun j => (B4.out.frozen (p := ⟨O, j, none⟩) (World.block_lt_of_cell? U2 ⟨O, 0, none⟩ o0)).trans (of_ j)
      have hOU : O < U2.heap.size := World.block_lt_of_cell? U2 ⟨O, 0, none⟩ o0
      obtain ⟨YY, PFz, HK5, BP⟩ := eJ (lo := W.heap.size) (R0 := O) BU.out B4.out HOW.out o0 o1 o2 o3 of_ h5 (show W.heap.size ≤ U2.heap.size by have := HOW.out; omega) (Nat.le_refl _) (Nat.le_refl _) hOU
      have PF : Hid (((((w4.setCell ⟨O, 0, none⟩ (.slice q5.sa q5.sn q5.sc)).setCell ⟨O, 1, none⟩ (.slice q5.ra q5.rn q5.rc)).setCell ⟨O, 2, none⟩ (.slice q5.wa q5.wn q5.tc)).setCell ⟨O, 3, none⟩ (.slice q5.va q5.vn q5.vc)).cell? ⟨w.heap.size, 0, none⟩ = some (.int .i64 (sh : Int)) ∧ ((((w4.setCell ⟨O, 0, none⟩ (.slice q5.sa q5.sn q5.sc)).setCell ⟨O, 1, none⟩ (.slice q5.ra q5.rn q5.rc)).setCell ⟨O, 2, none⟩ (.slice q5.wa q5.wn q5.tc)).setCell ⟨O, 3, none⟩ (.slice q5.va q5.vn q5.vc)).cell? ⟨w.heap.size, 1, none⟩ = some (.slice la l.length lc)) := ⟨aO HOP.out (KS.out _ B4.out).1, aO HOP.out (KS.out _ B4.out).2⟩
      clear hHeld
      refine hK.out _ _ (KS.out _ B4.out) (fun hHeld => ?_)
      clear hK K
      refine wpAnyH_ready (rs := [10]) (by kernel_rfl) (by simp) ?_
      refine AllReadyH.cons (o := { dst := none, op := .store 29 (.tmp 10) (.tmp 67), type := 0, pos := "steps.go:222", after := #[{ on := 9, ground := .data }, { on := 9, ground := .chain }, { on := 0, ground := .phase }, { on := 1, ground := .phase }, { on := 2, ground := .phase }, { on := 3, ground := .phase }, { on := 4, ground := .phase }, { on := 5, ground := .phase }, { on := 6, ground := .phase }, { on := 7, ground := .phase }, { on := 8, ground := .phase }, { on := 9, ground := .phase }], guard := none }) rfl (fun K hK => ?_) (AllReadyH.nil)
      go_simp
      skip
      clear hHeld
      refine hK.out _ _ (PF.out) (fun hHeld => ?_)
      clear hK K
      refine wpAnyH_done (by kernel_rfl) ?_ _
      clear hHeld KS CD z0 z1 z2 z3 zf s0 s1 s2 o0 o1 o2 o3
      go_wp2
      go_roundw
      case rel => exact ⟨i + 1, q5, by omega, by omega, by go_num, by go_num, YY, PFz, HK5, BP⟩
      case measure => simp [intOf]; omega
     ·go_simp
      have n0 := aA (aD (Below.refl _ _)) s0
      have n1 := aA (aD (Below.refl _ _)) s1
      have n2 := aA (aD (Below.refl _ _)) s2
      go_simp
      clear n0 n1 n2
      clear hHeld
      refine hK.out _ _ (KS.out _ (aD (Below.refl _ _))) (fun hHeld => ?_)
      clear hK K
      refine wpAnyH_ready (rs := [1]) (by kernel_rfl) (by simp) ?_
      refine AllReadyH.cons (o := { dst := some 59, op := .load 29 (.tmp 10), type := 29, pos := "steps.go:222", after := #[], guard := none }) rfl (fun K hK => ?_) (AllReadyH.nil)
      go_simp
      have n0 := aA (aD (Below.refl _ _)) o0
      have n1 := aA (aD (Below.refl _ _)) o1
      have n2 := aA (aD (Below.refl _ _)) o2
      have n3 := aA (aD (Below.refl _ _)) o3
      go_simp
      clear n0 n1 n2 n3
      clear hHeld
      refine hK.out _ _ (KS.out _ (aD (Below.refl _ _))) (fun hHeld => ?_)
      clear hK K
      refine wpAnyH_ready (rs := [9]) (by kernel_rfl) (by simp) ?_
      refine AllReadyH.cons (o := { dst := some 67, op := .call { callee := .value (.func 71), args := #[.tmp 58, .tmp 59, .tmp 66], argTypes := #[24, 29, 48] }, type := 29, pos := "steps.go:222", after := #[{ on := 0, ground := .data }, { on := 1, ground := .data }, { on := 8, ground := .data }], guard := none }) rfl (fun K hK => ?_) (AllReadyH.nil)
      go_simp
      go_wp2_with (go_at_call 71; refine (CD.out _ (aD (Below.refl _ _))).mono ?_; rintro e w4 ⟨q5, rfl, h5, hb4⟩)
      have B4 : Hid (Below U2.heap.size U2 w4) := aC (aD (Below.refl _ _)) hb4
      have z0 := aA B4.out o0
      have z1 := aA B4.out o1
      have z2 := aA B4.out o2
      have z3 := aA B4.out o3
      have zf : ∀ j, w4.frozen? ⟨O, j, none⟩ = false := fun j => (B4.out.frozen (p := ⟨O, j, none⟩) (World.block_lt_of_cell? U2 ⟨O, 0, none⟩ o0)).trans (of_ j)
      have hOU : O < U2.heap.size := World.block_lt_of_cell? U2 ⟨O, 0, none⟩ o0
      obtain ⟨YY, PFz, HK5, BP⟩ := eJ (lo := W.heap.size) (R0 := O) BU.out B4.out HOW.out o0 o1 o2 o3 of_ h5 (show W.heap.size ≤ U2.heap.size by have := HOW.out; omega) (Nat.le_refl _) (Nat.le_refl _) hOU
      have PF : Hid (((((w4.setCell ⟨O, 0, none⟩ (.slice q5.sa q5.sn q5.sc)).setCell ⟨O, 1, none⟩ (.slice q5.ra q5.rn q5.rc)).setCell ⟨O, 2, none⟩ (.slice q5.wa q5.wn q5.tc)).setCell ⟨O, 3, none⟩ (.slice q5.va q5.vn q5.vc)).cell? ⟨w.heap.size, 0, none⟩ = some (.int .i64 (sh : Int)) ∧ ((((w4.setCell ⟨O, 0, none⟩ (.slice q5.sa q5.sn q5.sc)).setCell ⟨O, 1, none⟩ (.slice q5.ra q5.rn q5.rc)).setCell ⟨O, 2, none⟩ (.slice q5.wa q5.wn q5.tc)).setCell ⟨O, 3, none⟩ (.slice q5.va q5.vn q5.vc)).cell? ⟨w.heap.size, 1, none⟩ = some (.slice la l.length lc)) := ⟨aO HOP.out (KS.out _ B4.out).1, aO HOP.out (KS.out _ B4.out).2⟩
      clear hHeld
      refine hK.out _ _ (KS.out _ B4.out) (fun hHeld => ?_)
      clear hK K
      refine wpAnyH_ready (rs := [10]) (by kernel_rfl) (by simp) ?_
      refine AllReadyH.cons (o := { dst := none, op := .store 29 (.tmp 10) (.tmp 67), type := 0, pos := "steps.go:222", after := #[{ on := 9, ground := .data }, { on := 9, ground := .chain }, { on := 0, ground := .phase }, { on := 1, ground := .phase }, { on := 2, ground := .phase }, { on := 3, ground := .phase }, { on := 4, ground := .phase }, { on := 5, ground := .phase }, { on := 6, ground := .phase }, { on := 7, ground := .phase }, { on := 8, ground := .phase }, { on := 9, ground := .phase }], guard := none }) rfl (fun K hK => ?_) (AllReadyH.nil)
      go_simp
      skip
      clear hHeld
      refine hK.out _ _ (PF.out) (fun hHeld => ?_)
      clear hK K
      refine wpAnyH_done (by kernel_rfl) ?_ _
      clear hHeld KS CD z0 z1 z2 z3 zf s0 s1 s2 o0 o1 o2 o3
      go_wp2
      go_roundw
      case rel => exact ⟨i + 1, q5, by omega, by omega, by go_num, by go_num, YY, PFz, HK5, BP⟩
      case measure => simp [intOf]; omega
  ·have hlt' : ¬ (i : Int) < (pk.length : Int) := by omega
   obtain ⟨K, hiK, CRR⟩ := FIN.out wr (Below.refl _ _) (Or.inr (by omega))
   have BU : Hid (Below W.heap.size W wr) := hB
   clear FIN HK OCC OF hB hlt
   go_wp2_with fail
   refine CRR.out.mono ?_
   rintro e w6 ⟨q', rfl, hq', hb6⟩
   have gA : Below w6.heap.size w6 (w6.alloc (.cells #[.slice q'.sa q'.sn q'.sc, .slice q'.ra q'.rn q'.rc, .slice q'.wa q'.wn q'.tc, .slice q'.va q'.vn q'.vc] 29)) := aB (Below.refl _ _) _
   have B6 : Hid (Below W.heap.size W (w6.alloc (.cells #[.slice q'.sa q'.sn q'.sc, .slice q'.ra q'.rn q'.rc, .slice q'.wa q'.wn q'.tc, .slice q'.va q'.vn q'.vc] 29))) := aC BU.out (aC hb6 gA)
   have HQ : Hid (StaF W.heap.size ((aS sh l pk s) N) q' (w6.alloc (.cells #[.slice q'.sa q'.sn q'.sc, .slice q'.ra q'.rn q'.rc, .slice q'.wa q'.wn q'.tc, .slice q'.va q'.vn q'.vc] 29))) := hq'.below gA
   have t0 : (w6.alloc (.cells #[.slice q'.sa q'.sn q'.sc, .slice q'.ra q'.rn q'.rc, .slice q'.wa q'.wn q'.tc, .slice q'.va q'.vn q'.vc] 29)).cell? ⟨w6.heap.size, 0, none⟩ = some (.slice q'.sa q'.sn q'.sc) := aE _ _ 29 _ 0 _ rfl rfl
   have t1 : (w6.alloc (.cells #[.slice q'.sa q'.sn q'.sc, .slice q'.ra q'.rn q'.rc, .slice q'.wa q'.wn q'.tc, .slice q'.va q'.vn q'.vc] 29)).cell? ⟨w6.heap.size, 1, none⟩ = some (.slice q'.ra q'.rn q'.rc) := aE _ _ 29 _ 1 _ rfl rfl
   have t2 : (w6.alloc (.cells #[.slice q'.sa q'.sn q'.sc, .slice q'.ra q'.rn q'.rc, .slice q'.wa q'.wn q'.tc, .slice q'.va q'.vn q'.vc] 29)).cell? ⟨w6.heap.size, 2, none⟩ = some (.slice q'.wa q'.wn q'.tc) := aE _ _ 29 _ 2 _ rfl rfl
   have t3 : (w6.alloc (.cells #[.slice q'.sa q'.sn q'.sc, .slice q'.ra q'.rn q'.rc, .slice q'.wa q'.wn q'.tc, .slice q'.va q'.vn q'.vc] 29)).cell? ⟨w6.heap.size, 3, none⟩ = some (.slice q'.va q'.vn q'.vc) := aE _ _ 29 _ 3 _ rfl rfl
   clear hq' hb6 gA CRR p0 p1 r0 r1 r2 r3 o0 o1 o2 o3 BU
   go_upto_region 20 with fail
   generalize (w6.alloc (.cells #[.slice q'.sa q'.sn q'.sc, .slice q'.ra q'.rn q'.rc, .slice q'.wa q'.wn q'.tc, .slice q'.va q'.vn q'.vc] 29)) = Y at *
   generalize w6.heap.size = T at *
   obtain ⟨p0, p1, r0, r1, r2, r3⟩ := KEEP.out Y B6.out
   have rf : ∀ j, Y.frozen? ⟨w.heap.size + 1, j, none⟩ = false := fun j => (B6.out.frozen (p := ⟨w.heap.size + 1, j, none⟩) (by have := sz.out; show w.heap.size + 1 < _; omega)).trans (RF.out j)
   obtain ⟨y0, y1, y2, y3⟩ := kZ q' r0 r1 r2 r3
   have hRW : w.heap.size + 1 < W.heap.size := by have := sz.out; omega
   have FS : Hid (StaF w.heap.size ((aS sh l pk s) N) q' ((((Y.setCell ⟨w.heap.size + 1, 0, none⟩ (.slice q'.sa q'.sn q'.sc)).setCell ⟨w.heap.size + 1, 1, none⟩ (.slice q'.ra q'.rn q'.rc)).setCell ⟨w.heap.size + 1, 2, none⟩ (.slice q'.wa q'.wn q'.tc)).setCell ⟨w.heap.size + 1, 3, none⟩ (.slice q'.va q'.vn q'.vc))) := ((((HQ.out.set _ 0 _ hRW).set _ 1 _ hRW).set _ 2 _ hRW).set _ 3 _ hRW).low hU.out.size
   have FB : Hid (Below w.heap.size w ((((Y.setCell ⟨w.heap.size + 1, 0, none⟩ (.slice q'.sa q'.sn q'.sc)).setCell ⟨w.heap.size + 1, 1, none⟩ (.slice q'.ra q'.rn q'.rc)).setCell ⟨w.heap.size + 1, 2, none⟩ (.slice q'.wa q'.wn q'.tc)).setCell ⟨w.heap.size + 1, 3, none⟩ (.slice q'.va q'.vn q'.vc))) := aG (aG (aG (aG (aC hU.out B6.out) (by simp) _) (by simp) _) (by simp) _) (by simp) _
   clear HQ hRW
   go_wp2
   refine bodyPost_ret (v := .tuple #[.agg #[.slice q'.sa q'.sn q'.sc, .slice q'.ra q'.rn q'.rc, .slice q'.wa q'.wn q'.tc, .slice q'.va q'.vn q'.vc], .int .i64 (N : Nat), .int .i64 0]) (by simp [results, Tryz.results31, go_sem, y0, y1, y2, y3]) rfl ⟨q', rfl, FS.out, FB.out⟩
theorem docPlay_any (m : Int) (w : World) (hl : IsTxs w la l) (hs : IsInts w sa s) (hp : IsInts w pa pk) (hw : ∀ i, i < pk.length → (Lit.int .i64 (pk.getD i 0)).wf = true) :
  Calls Tryz.prog 31 #[.agg #[.int .i64 m, .slice la l.length lc], .slice sa s.length sc, .slice pa pk.length pc] w fun e w' => ∃ q : Q4, e = .returned (.tuple #[.agg #[.slice q.sa q.sn q.sc, .slice q.ra q.rn q.rc, .slice q.wa q.wn q.tc, .slice q.va q.vn q.vc], .int .i64 (gE m l s pk : Nat), .int .i64 (cW m l s pk)]) ∧ StaF w.heap.size (cR m l s pk) q w' ∧ Below w.heap.size w w' := by
 by_cases h1 : aP m l = 0
 ·by_cases h2 : s.length = 8
  ·have hb : dX m l s = 0 := by unfold dX dZ; rw [h1, if_pos h2]; rfl
   by_cases h3 : 200 < pk.length
   ·have e : cW m l s pk = 2 := by unfold cW mpE; rw [hb, if_pos h3]; rfl
    have e1 : cR m l s pk = SNil := if_neg (by rw [e]; decide)
    have e2 : gE m l s pk = 0 := if_neg (by rw [e]; decide)
    rw [e, e1, e2]
    refine (docPlay_many la lc l sa sc s pa pc pk m w hl h1 h2 h3).mono ?_
    rintro e w' ⟨rfl, hb⟩
    exact ⟨qNil, rfl, gN _ _, hb⟩
   ·have e : cW m l s pk = 0 := by unfold cW mpE; rw [hb, if_neg h3]; rfl
    have e1 : cR m l s pk = iJ m.toNat l pk s := if_pos e
    have e2 : gE m l s pk = aN m.toNat l := if_pos e
    obtain ⟨z1, z4, _⟩ := aX h1
    obtain ⟨sh, rfl⟩ := Int.eq_ofNat_of_zero_le (show 0 ≤ m by omega)
    rw [e, e1, e2]
    exact docPlay_ok la lc l sa sc s pa pc pk sh w hl hs hp hw (by omega) hb
  ·have hb : dX m l s = 1 := by unfold dX dZ; rw [h1, if_neg h2]; rfl
   have e : cW m l s pk = 1 := by unfold cW; rw [hb]; rfl
   have e1 : cR m l s pk = SNil := if_neg (by rw [e]; decide)
   have e2 : gE m l s pk = 0 := if_neg (by rw [e]; decide)
   rw [e, e1, e2]
   refine (docPlay_form la lc l sa sc s pa pc pk m w hl h1 h2).mono ?_
   rintro e w' ⟨rfl, hb⟩
   exact ⟨qNil, rfl, gN _ _, hb⟩
 ·have hb : dX m l s = aP m l := by unfold dX; simp [aF, h1]
  have e : cW m l s pk = aP m l := by unfold cW; rw [hb]; simp [aF, h1]
  have e1 : cR m l s pk = SNil := if_neg (by rw [e]; exact h1)
  have e2 : gE m l s pk = 0 := if_neg (by rw [e]; exact h1)
  rw [e, e1, e2]
  refine (rD la lc l sa sc s pa pc pk m w hl h1).mono ?_
  rintro e w' ⟨rfl, hb⟩
  exact ⟨qNil, rfl, gN _ _, hb⟩
end Go.Proofs.YtebjkmknhpgemaaGreat
