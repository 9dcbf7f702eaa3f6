/-
  
  Conditions: those that each theorem states.
-/
import Derived.Test.YtcgpkonfneofdaaGreatSPlayC
namespace Go.Proofs.YtcgpkonfneofdaaGreat
open Go.RowKit
variable (la : Option Addr) (lc : Nat) (l : List TxA) (pa : Option Addr) (pc : Nat) (pk s : List Int)
theorem ints_from {w : World} {pa : Option Addr} {pc d : Nat} {pk : List Int} (h : IsInts w pa pk) (hpc : pk.length ≤ pc) (hd : d ≤ pk.length) : IsInts w (if pc = d then pa else Option.map (fun x => x.add d) pa) (pk.drop d) := by
 by_cases e : pc = d
 ·intro i hi
  rw [List.length_drop] at hi
  omega
 ·rw [if_neg e]
  cases pa with
  | none =>
   intro i hi
   rw [List.length_drop] at hi
   obtain ⟨b, off, e, _⟩ := h (d + i) (by omega)
   cases e
  | some p =>
   intro i hi
   obtain ⟨b, off, e, _⟩ := h 0 (by rw [List.length_drop] at hi; omega)
   injection e with e
   subst e
   have h2 := ints_drop (d := d) h i hi
   obtain ⟨b', off', e1, e2, e3⟩ := h2
   refine ⟨b', off', ?_, e2, e3⟩
   rw [← e1]
   by_cases h0 : d = 0
   ·subst h0; rfl
   ·simp [Addr.add, h0]
set_option maxRecDepth 100000 in
set_option maxHeartbeats 8000000 in
theorem march_any (m : Int) (q : Q4) (w : World) (hl : IsTxs w la l) (lo : Nat) (hlo : lo ≤ w.heap.size) (hq : StaF lo (begS m l s) q w) (hp : IsInts w pa pk) (hpc : pk.length ≤ pc) (hw : ∀ i, i < pk.length → (Lit.int .i64 (pk.getD i 0)).wf = true) (hm : pk.length ≤ 200) (hb : begE m l s = 0) :
  Calls Tryz.prog 15 #[.agg #[.int .i64 m, .slice la l.length lc], .agg #[.slice q.sa q.sn q.sc, .slice q.ra q.rn q.rc, .slice q.wa q.wn q.tc, .slice q.va q.vn q.vc], .slice pa pk.length pc] w fun e w' => ∃ q' : Q4, e = .returned (.agg #[.slice q'.sa q'.sn q'.sc, .slice q'.ra q'.rn q'.rc, .slice q'.wa q'.wn q'.tc, .slice q'.va q'.vn q'.vc, .int .i64 (cntAll m.toNat l : Nat)]) ∧ StaF lo (endX m.toNat l pk s) q' w' ∧ Below w.heap.size w w' := by
 have WAY : Hid (Way m l pk s) := way_of hb
 have hN64 := (way_of (pk := pk) hb).n
 have HE : Hid (runX m.toNat l pk s 0 = begS m l s) := (if_pos hb).symm
 have WST : Hid (∀ i, i ≤ cntAll m.toNat l → stE m l (runX m.toNat l pk s i) = 0) := WAY.out.st
 have WOV : Hid (∀ i, i ≤ cntAll m.toNat l → ovE m l (runX m.toNat l pk s i) = decide (i = cntAll m.toNat l)) := WAY.out.ov
 have WCAN : Hid (∀ i, i < cntAll m.toNat l → 0 < (canE m l (runX m.toNat l pk s i)).length) := WAY.out.can
 have WNX : Hid (∀ i, i < cntAll m.toNat l → ∀ x, x = (canE m l (runX m.toNat l pk s i)).getD (plK (pk.drop (min i pk.length)) (canE m l (runX m.toNat l pk s i)).length) (0, 0, 0) → doS m l (runX m.toNat l pk s i) (x.1 : Nat) (x.2.1 : Nat) (x.2.2 : Nat) = runX m.toNat l pk s (i + 1)) := WAY.out.nx
 clear WAY
 have HEN : Hid (endX m.toNat l pk s = runX m.toNat l pk s (cntAll m.toNat l)) := rfl
 obtain ⟨W, hWe⟩ : ∃ W : World, W = (((w.alloc (.cells #[.int .i64 m, .slice la l.length lc] 24)).alloc (.cells #[.slice q.sa q.sn q.sc, .slice q.ra q.rn q.rc, .slice q.wa q.wn q.tc, .slice q.va q.vn q.vc] 29)).alloc (.cells #[.slice none 0 0, .slice none 0 0, .slice none 0 0, .slice none 0 0, .int .i64 0] 44)) := ⟨_, rfl⟩
 have hW : Hid (Below w.heap.size w W) := by subst hWe; exact (grow_alloc (grow_alloc (grow_alloc (Below.refl _ _) _) _) _)
 have sz : Hid (W.heap.size = w.heap.size + 3) := by subst hWe; show _ = _; simp
 have p0 : W.cell? ⟨w.heap.size, 0, none⟩ = some (.int .i64 m) := by subst hWe; exact ext_cell (grow_alloc (grow_alloc (Below.refl _ _) _) _) (at_new _ _ 24 _ 0 _ (by first | rfl | simp) rfl)
 have p1 : W.cell? ⟨w.heap.size, 1, none⟩ = some (.slice la l.length lc) := by subst hWe; exact ext_cell (grow_alloc (grow_alloc (Below.refl _ _) _) _) (at_new _ _ 24 _ 1 _ (by first | rfl | simp) rfl)
 have k0 : W.cell? ⟨w.heap.size + 1, 0, none⟩ = some (.slice q.sa q.sn q.sc) := by subst hWe; exact ext_cell (grow_alloc (Below.refl _ _) _) (at_new _ _ 29 _ 0 _ (by first | rfl | simp) rfl)
 have k1 : W.cell? ⟨w.heap.size + 1, 1, none⟩ = some (.slice q.ra q.rn q.rc) := by subst hWe; exact ext_cell (grow_alloc (Below.refl _ _) _) (at_new _ _ 29 _ 1 _ (by first | rfl | simp) rfl)
 have k2 : W.cell? ⟨w.heap.size + 1, 2, none⟩ = some (.slice q.wa q.wn q.tc) := by subst hWe; exact ext_cell (grow_alloc (Below.refl _ _) _) (at_new _ _ 29 _ 2 _ (by first | rfl | simp) rfl)
 have k3 : W.cell? ⟨w.heap.size + 1, 3, none⟩ = some (.slice q.va q.vn q.vc) := by subst hWe; exact ext_cell (grow_alloc (Below.refl _ _) _) (at_new _ _ 29 _ 3 _ (by first | rfl | simp) rfl)
 have s0 : W.cell? ⟨w.heap.size + 2, 0, none⟩ = some (.slice none 0 0) := by subst hWe; exact ext_cell (Below.refl _ _) (at_new _ _ 44 _ 0 _ (by first | rfl | simp) rfl)
 have s1 : W.cell? ⟨w.heap.size + 2, 1, none⟩ = some (.slice none 0 0) := by subst hWe; exact ext_cell (Below.refl _ _) (at_new _ _ 44 _ 1 _ (by first | rfl | simp) rfl)
 have s2 : W.cell? ⟨w.heap.size + 2, 2, none⟩ = some (.slice none 0 0) := by subst hWe; exact ext_cell (Below.refl _ _) (at_new _ _ 44 _ 2 _ (by first | rfl | simp) rfl)
 have s3 : W.cell? ⟨w.heap.size + 2, 3, none⟩ = some (.slice none 0 0) := by subst hWe; exact ext_cell (Below.refl _ _) (at_new _ _ 44 _ 3 _ (by first | rfl | simp) rfl)
 have s4 : W.cell? ⟨w.heap.size + 2, 4, none⟩ = some (.int .i64 0) := by subst hWe; exact ext_cell (Below.refl _ _) (at_new _ _ 44 _ 4 _ (by first | rfl | simp) rfl)
 have SF : Hid (∀ j, W.frozen? ⟨w.heap.size + 2, j, none⟩ = false) := by subst hWe; exact fun j => frozen_new _ _ 44 _ j (by simp)
 have KEEP : Hid (∀ w', Below W.heap.size W w' → w'.cell? ⟨w.heap.size, 0, none⟩ = some (.int .i64 m) ∧ w'.cell? ⟨w.heap.size, 1, none⟩ = some (.slice la l.length lc) ∧ w'.cell? ⟨w.heap.size + 1, 0, none⟩ = some (.slice q.sa q.sn q.sc) ∧ w'.cell? ⟨w.heap.size + 1, 1, none⟩ = some (.slice q.ra q.rn q.rc) ∧ w'.cell? ⟨w.heap.size + 1, 2, none⟩ = some (.slice q.wa q.wn q.tc) ∧ w'.cell? ⟨w.heap.size + 1, 3, none⟩ = some (.slice q.va q.vn q.vc) ∧ w'.cell? ⟨w.heap.size + 2, 0, none⟩ = some (.slice none 0 0) ∧ w'.cell? ⟨w.heap.size + 2, 1, none⟩ = some (.slice none 0 0) ∧ w'.cell? ⟨w.heap.size + 2, 2, none⟩ = some (.slice none 0 0) ∧ w'.cell? ⟨w.heap.size + 2, 3, none⟩ = some (.slice none 0 0) ∧ w'.cell? ⟨w.heap.size + 2, 4, none⟩ = some (.int .i64 0)) := fun w' hb => ⟨ext_cell hb p0, ext_cell hb p1, ext_cell hb k0, ext_cell hb k1, ext_cell hb k2, ext_cell hb k3, ext_cell hb s0, ext_cell hb s1, ext_cell hb s2, ext_cell hb s3, ext_cell hb s4⟩
 have HL : Hid (IsTxs W la l) := hl.below hW.out
 have HP : Hid (IsInts W pa pk) := hp.below hW.out
 have HWF : Hid (∀ i, i < pk.length → (Lit.int .i64 (pk.getD i 0)).wf = true) := hw
 have HM : Hid (pk.length ≤ maxLen) := by show _ ≤ _; unfold maxLen; omega
 have gV : Below W.heap.size W (W.alloc (.cells #[.slice q.sa q.sn q.sc, .slice q.ra q.rn q.rc, .slice q.wa q.wn q.tc, .slice q.va q.vn q.vc, .int .i64 0] 44)) := grow_alloc (Below.refl _ _) _
 have K0 : Hid (KO lo w.heap.size W.heap.size (runX m.toNat l pk s 0) q (W.alloc (.cells #[.slice q.sa q.sn q.sc, .slice q.ra q.rn q.rc, .slice q.wa q.wn q.tc, .slice q.va q.vn q.vc, .int .i64 0] 44))) := by
  show KO _ _ _ _ _ _
  rw [HE.out]
  exact hq.ko0 (grow_trans hW.out gV)
 have V0c : Hid ((W.alloc (.cells #[.slice q.sa q.sn q.sc, .slice q.ra q.rn q.rc, .slice q.wa q.wn q.tc, .slice q.va q.vn q.vc, .int .i64 0] 44)).cell? ⟨W.heap.size, 0, none⟩ = some (.slice q.sa q.sn q.sc) ∧ (W.alloc (.cells #[.slice q.sa q.sn q.sc, .slice q.ra q.rn q.rc, .slice q.wa q.wn q.tc, .slice q.va q.vn q.vc, .int .i64 0] 44)).cell? ⟨W.heap.size, 1, none⟩ = some (.slice q.ra q.rn q.rc) ∧ (W.alloc (.cells #[.slice q.sa q.sn q.sc, .slice q.ra q.rn q.rc, .slice q.wa q.wn q.tc, .slice q.va q.vn q.vc, .int .i64 0] 44)).cell? ⟨W.heap.size, 2, none⟩ = some (.slice q.wa q.wn q.tc) ∧ (W.alloc (.cells #[.slice q.sa q.sn q.sc, .slice q.ra q.rn q.rc, .slice q.wa q.wn q.tc, .slice q.va q.vn q.vc, .int .i64 0] 44)).cell? ⟨W.heap.size, 3, none⟩ = some (.slice q.va q.vn q.vc) ∧ (W.alloc (.cells #[.slice q.sa q.sn q.sc, .slice q.ra q.rn q.rc, .slice q.wa q.wn q.tc, .slice q.va q.vn q.vc, .int .i64 0] 44)).cell? ⟨W.heap.size, 4, none⟩ = some (.int .i64 (0 : Nat))) := ⟨at_new _ _ 44 _ 0 _ rfl rfl, at_new _ _ 44 _ 1 _ rfl rfl, at_new _ _ 44 _ 2 _ rfl rfl, at_new _ _ 44 _ 3 _ rfl rfl, at_new _ _ 44 _ 4 _ rfl rfl⟩
 have V0f : Hid (∀ j, (W.alloc (.cells #[.slice q.sa q.sn q.sc, .slice q.ra q.rn q.rc, .slice q.wa q.wn q.tc, .slice q.va q.vn q.vc, .int .i64 0] 44)).frozen? ⟨W.heap.size, j, none⟩ = false) := fun j => frozen_new _ _ 44 _ j rfl
 have BV0 : Hid (Below W.heap.size W (W.alloc (.cells #[.slice q.sa q.sn q.sc, .slice q.ra q.rn q.rc, .slice q.wa q.wn q.tc, .slice q.va q.vn q.vc, .int .i64 0] 44))) := gV
 clear hl hq hp hw hb gV p0 p1 k0 k1 k2 k3 s0 s1 s2 s3 s4 HE
 have HWe : Hid (W = _) := hWe
 clear hWe
 generalize hNe : cntAll m.toNat l = N at *
 go_enter Tryz.func15, Tryz.ntmps15
 go_upto_region 1 with fail
 rw [← HWe.out]
 clear HWe
 obtain ⟨p0, p1, k0, k1, k2, k3, s0, s1, s2, s3, s4⟩ := KEEP.out W (Below.refl _ _)
 go_upto_region 2 with fail
 clear p0 p1 k0 k1 k2 k3 s0 s1 s2 s3 s4
 generalize (W.alloc (.cells #[.slice q.sa q.sn q.sc, .slice q.ra q.rn q.rc, .slice q.wa q.wn q.tc, .slice q.va q.vn q.vc, .int .i64 0] 44)) = V at *
 have hOW : Hid (W.heap.size ≤ W.heap.size) := Nat.le_refl _
 have hOP : Hid (W.heap.size ≠ w.heap.size) := by show _ ≠ _; have := sz.out; omega
 have hOP2 : Hid (w.heap.size + 2 < W.heap.size) := by show _ < _; have := sz.out; omega
 go_loopw [] (fun wr => ∃ (i : Nat) (q : Q4), i ≤ N ∧ Hid (wr.cell? ⟨W.heap.size, 0, none⟩ = some (.slice q.sa q.sn q.sc) ∧ wr.cell? ⟨W.heap.size, 1, none⟩ = some (.slice q.ra q.rn q.rc) ∧ wr.cell? ⟨W.heap.size, 2, none⟩ = some (.slice q.wa q.wn q.tc) ∧ wr.cell? ⟨W.heap.size, 3, none⟩ = some (.slice q.va q.vn q.vc) ∧ wr.cell? ⟨W.heap.size, 4, none⟩ = some (.int .i64 (i : Nat))) ∧ Hid (∀ j, wr.frozen? ⟨W.heap.size, j, none⟩ = false) ∧ Hid (KO lo w.heap.size W.heap.size (runX m.toNat l pk s i) q wr) ∧ Hid (Below W.heap.size W wr)) (fun wr => N - (intOf ((wr.cell? ⟨W.heap.size, 4, none⟩).getD undef)).toNat)
 case atStart => exact ⟨0, q, Nat.zero_le _, V0c, V0f, K0, BV0⟩
 case round =>
  clear V0c V0f K0 BV0
  obtain ⟨i, q, hi, OCC, OF, HK, hB⟩ := hrel
  obtain ⟨o0, o1, o2, o3, o4⟩ := OCC.out
  have of_ := OF.out
  obtain ⟨p0, p1, k0, k1, k2, k3, s0, s1, s2, s3, s4⟩ := KEEP.out wr hB.out
  have hOlt : W.heap.size < wr.heap.size := World.block_lt_of_cell? wr ⟨W.heap.size, 0, none⟩ o0
  have hst := WST.out i hi
  have CV : Hid (Calls Tryz.prog 19 #[.agg #[.int .i64 m, .slice la l.length lc], .agg #[.slice q.sa q.sn q.sc, .slice q.ra q.rn q.rc, .slice q.wa q.wn q.tc, .slice q.va q.vn q.vc]] wr fun e w' => e = .returned (.tuple #[.bool (decide (i = N)), .int .i64 0]) ∧ Below wr.heap.size wr w') := by
   have h := over_q (m := m) (c := lc) (HL.out.below hB.out) HK.out.sta
   rw [hst, WOV.out i hi] at h
   exact h
  clear hst
  go_wp2_with fail
  refine CV.out.mono ?_
  rintro e w1 ⟨rfl, hb1⟩
  go_wp2_with fail
  refine (gotB_ok _ _).mono ?_
  rintro e w2 ⟨rfl, rfl⟩
  have gA : Below w1.heap.size w1 (w1.alloc (.cells #[.int .i64 0] 30)) := grow_alloc (Below.refl _ _) _
  have hb2 : Below wr.heap.size wr (w1.alloc (.cells #[.int .i64 0] 30)) := grow_trans hb1 gA
  have HK2 : Hid (KO lo w.heap.size W.heap.size (runX m.toNat l pk s i) q (w1.alloc (.cells #[.int .i64 0] 30))) := HK.out.below hb2
  have B2 : Hid (Below W.heap.size W (w1.alloc (.cells #[.int .i64 0] 30))) := grow_trans hB.out hb2
  have o0' := ext_cell hb2 o0
  have o1' := ext_cell hb2 o1
  have o2' := ext_cell hb2 o2
  have o3' := ext_cell hb2 o3
  have o4' := ext_cell hb2 o4
  have of2 : ∀ j, (w1.alloc (.cells #[.int .i64 0] 30)).frozen? ⟨W.heap.size, j, none⟩ = false := fun j => (hb2.frozen (p := ⟨W.heap.size, j, none⟩) hOlt).trans (of_ j)
  have hOlt2 : W.heap.size < (w1.alloc (.cells #[.int .i64 0] 30)).heap.size := Nat.lt_of_lt_of_le hOlt hb2.size
  have O4 : Hid (wr.cell? ⟨W.heap.size, 4, none⟩ = some (.int .i64 (i : Nat))) := o4
  clear CV hb1 hb2 gA o0 o1 o2 o3 o4 of_ hOlt p0 p1 k0 k1 k2 k3 s0 s1 s2 s3 s4 HK hB OF OCC
  generalize (w1.alloc (.cells #[.int .i64 0] 30)) = V2 at *
  obtain ⟨p0, p1, k0, k1, k2, k3, s0, s1, s2, s3, s4⟩ := KEEP.out V2 B2.out
  by_cases hend : i = N
  ·rw [decide_eq_true hend]
   subst hend
   have sf : ∀ j, V2.frozen? ⟨w.heap.size + 2, j, none⟩ = false := fun j => (B2.out.frozen (p := ⟨w.heap.size + 2, j, none⟩) hOP2.out).trans (SF.out j)
   obtain ⟨y0, y1, y2, y3, y4⟩ := put5 q (i : Int) s0 s1 s2 s3 s4
   have HR : w.heap.size + 2 ≤ W.heap.size := by have := hOP2.out; omega
   have HA : w.heap.size ≤ w.heap.size + 2 := by omega
   have FS : Hid (StaF lo (endX m.toNat l pk s) q (((((V2.setCell ⟨w.heap.size + 2, 0, none⟩ (.slice q.sa q.sn q.sc)).setCell ⟨w.heap.size + 2, 1, none⟩ (.slice q.ra q.rn q.rc)).setCell ⟨w.heap.size + 2, 2, none⟩ (.slice q.wa q.wn q.tc)).setCell ⟨w.heap.size + 2, 3, none⟩ (.slice q.va q.vn q.vc)).setCell ⟨w.heap.size + 2, 4, none⟩ (.int .i64 (i : Nat)))) := by
    show StaF _ _ _ _
    rw [HEN.out]
    exact (((((HK2.out.set HA HR 0 _).set HA HR 1 _).set HA HR 2 _).set HA HR 3 _).set HA HR 4 _).staF
   have FB : Hid (Below w.heap.size w (((((V2.setCell ⟨w.heap.size + 2, 0, none⟩ (.slice q.sa q.sn q.sc)).setCell ⟨w.heap.size + 2, 1, none⟩ (.slice q.ra q.rn q.rc)).setCell ⟨w.heap.size + 2, 2, none⟩ (.slice q.wa q.wn q.tc)).setCell ⟨w.heap.size + 2, 3, none⟩ (.slice q.va q.vn q.vc)).setCell ⟨w.heap.size + 2, 4, none⟩ (.int .i64 (i : Nat)))) := grow_set (grow_set (grow_set (grow_set (grow_set (grow_trans hW.out B2.out) HA _) HA _) HA _) HA _) HA _
   go_wp2
   refine bodyPost_ret (v := .agg #[.slice q.sa q.sn q.sc, .slice q.ra q.rn q.rc, .slice q.wa q.wn q.tc, .slice q.va q.vn q.vc, .int .i64 (i : Nat)]) (by simp [results, Tryz.results15, go_sem, y0, y1, y2, y3, y4]) rfl ⟨q, rfl, FS.out, FB.out⟩
  ·rw [decide_eq_false hend]
   have hlt : i < N := by omega
   obtain ⟨d, hd⟩ : ∃ d, Hid (d = min i pk.length) := ⟨_, rfl⟩
   have hmin : (if pk.length < i then (pk.length : Int) else (i : Int)) = (d : Int) := by have := hd.out; split <;> omega
   have hdl : d ≤ pk.length := by have := hd.out; omega
   obtain ⟨ad, hAd⟩ : ∃ ad, (if pc = d then pa else Option.map (fun x => x.add d) pa) = ad := ⟨_, rfl⟩
   have HDI : Hid (IsInts V2 ad (pk.drop d)) := by rw [← hAd]; exact ints_from (HP.out.below B2.out) hpc hdl
   have hdn : (pk.drop d).length = pk.length - d := by rw [List.length_drop]
   have HWD : Hid (∀ j, j < (pk.drop d).length → (Lit.int .i64 ((pk.drop d).getD j 0)).wf = true) := fun j hj => by
    rw [hdn] at hj
    have h := HWF.out (d + j) (by omega)
    simpa [List.getD] using h
   have CX : Hid (∀ w', Below V2.heap.size V2 w' → Calls Tryz.prog 39 #[.agg #[.int .i64 m, .slice la l.length lc], .agg #[.slice q.sa q.sn q.sc, .slice q.ra q.rn q.rc, .slice q.wa q.wn q.tc, .slice q.va q.vn q.vc], .slice ad (pk.length - d) (pc - d)] w' fun e w'' => ∃ q' : Q4, e = .returned (.agg #[.slice q'.sa q'.sn q'.sc, .slice q'.ra q'.rn q'.rc, .slice q'.wa q'.wn q'.tc, .slice q'.va q'.vn q'.vc]) ∧ StaF w'.heap.size (runX m.toNat l pk s (i + 1)) q' w'' ∧ Below w'.heap.size w' w'') := fun w' hb => by
    have h := next_any la lc l ad (pc - d) (pk.drop d) m q (runX m.toNat l pk s i) w' (HL.out.below (grow_trans B2.out hb)) (HK2.out.below hb).sta (HDI.out.below hb) HWD.out (by rw [hdn]; have := HM.out; omega) (WST.out i hi) (WCAN.out i hlt)
    rw [WNX.out i hlt _ (by rw [hd.out]), hdn] at h
    exact h
   clear HDI HWD hdn
   go_upto_region 3 with fail
   have KS : Hid (∀ w', Below V2.heap.size V2 w' → w'.cell? ⟨w.heap.size, 0, none⟩ = some (.int .i64 m) ∧ w'.cell? ⟨w.heap.size, 1, none⟩ = some (.slice la l.length lc) ∧ w'.cell? ⟨W.heap.size, 4, none⟩ = some (.int .i64 (i : Int))) := fun w' hb => ⟨ext_cell hb p0, ext_cell hb p1, ext_cell hb o4'⟩
   clear p0 p1 k0 k1 k2 k3 s0 s1 s2 s3 s4
   refine wp_region_held_drew (S := (fun w' => w'.cell? ⟨w.heap.size, 0, none⟩ = some (.int .i64 m) ∧ w'.cell? ⟨w.heap.size, 1, none⟩ = some (.slice la l.length lc) ∧ w'.cell? ⟨W.heap.size, 4, none⟩ = some (.int .i64 (i : Int)))) (by kernel_rfl) ?_ (fun hHeld => ?_)
   ·refine KS.out _ ?_
    exact grow_drew (Below.refl _ _)
   refine tk (i := 0) (oi := { dst := some 18, op := .load 24 (.tmp 3), type := 24, pos := "play.go:47", after := #[], guard := none }) (v := ?_) rfl (by kernel_rfl) (by kernel_rfl) (by kernel_rfl) (fun _ _ _ h => h) (by rfl) (by assumption) ?_ ?_; rotate_left; focus (intro w hSw; go_simp; first | done | with_reducible rfl)
   try simp only [Act.put, List.setIfInBounds_toArray, List.set_cons_zero, List.set_cons_succ]
   refine tk (i := 1) (oi := { dst := some 19, op := .fieldAddr 44 (.tmp 7) 0, type := 0, pos := "play.go:47", after := #[], guard := none }) (v := ?_) rfl (by kernel_rfl) (by kernel_rfl) (by kernel_rfl) (fun _ _ _ h => h) (by rfl) (by assumption) ?_ ?_; rotate_left; focus (intro w hSw; go_simp; first | done | with_reducible rfl)
   try simp only [Act.put, List.setIfInBounds_toArray, List.set_cons_zero, List.set_cons_succ]
   refine tk (i := 3) (oi := { dst := some 21, op := .move (.tmp 2), type := 25, pos := "play.go:47", after := #[], guard := none }) (v := ?_) rfl (by kernel_rfl) (by kernel_rfl) (by kernel_rfl) (fun _ _ _ h => h) (by rfl) (by assumption) ?_ ?_; rotate_left; focus (intro w hSw; go_simp; first | done | with_reducible rfl)
   try simp only [Act.put, List.setIfInBounds_toArray, List.set_cons_zero, List.set_cons_succ]
   refine tk (i := 4) (oi := { dst := some 22, op := .fieldAddr 44 (.tmp 7) 1, type := 0, pos := "play.go:47", after := #[], guard := none }) (v := ?_) rfl (by kernel_rfl) (by kernel_rfl) (by kernel_rfl) (fun _ _ _ h => h) (by rfl) (by assumption) ?_ ?_; rotate_left; focus (intro w hSw; go_simp; first | done | with_reducible rfl)
   try simp only [Act.put, List.setIfInBounds_toArray, List.set_cons_zero, List.set_cons_succ]
   refine tk (i := 5) (oi := { dst := some 23, op := .load 3 (.tmp 22), type := 3, pos := "play.go:47", after := #[{ on := 4, ground := .data }], guard := none }) (v := ?_) rfl (by kernel_rfl) (by kernel_rfl) (by kernel_rfl) (fun _ _ _ h => h) (by rfl) (by assumption) ?_ ?_; rotate_left; focus (intro w hSw; go_simp; first | done | with_reducible rfl)
   try simp only [Act.put, List.setIfInBounds_toArray, List.set_cons_zero, List.set_cons_succ]
   refine tk (i := 6) (oi := { dst := some 24, op := .move (.tmp 2), type := 25, pos := "play.go:47", after := #[], guard := none }) (v := ?_) rfl (by kernel_rfl) (by kernel_rfl) (by kernel_rfl) (fun _ _ _ h => h) (by rfl) (by assumption) ?_ ?_; rotate_left; focus (intro w hSw; go_simp; first | done | with_reducible rfl)
   try simp only [Act.put, List.setIfInBounds_toArray, List.set_cons_zero, List.set_cons_succ]
   refine tk (i := 7) (oi := { dst := some 25, op := .call { callee := .builtin .len, args := #[.tmp 24], argTypes := #[25] }, type := 3, pos := "play.go:47", after := #[{ on := 6, ground := .data }], guard := none }) (v := ?_) rfl (by kernel_rfl) (by kernel_rfl) (by kernel_rfl) (fun _ _ _ h => h) (by rfl) (by assumption) ?_ ?_; rotate_left; focus (intro w hSw; go_simp; first | done | with_reducible rfl)
   try simp only [Act.put, List.setIfInBounds_toArray, List.set_cons_zero, List.set_cons_succ]
   refine tk (i := 8) (oi := { dst := some 26, op := .call { callee := .builtin .min, args := #[.tmp 23, .tmp 25], argTypes := #[3, 3] }, type := 3, pos := "play.go:47", after := #[{ on := 5, ground := .data }, { on := 7, ground := .data }], guard := none }) (v := ?_) rfl (by kernel_rfl) (by kernel_rfl) (by kernel_rfl) (fun _ _ _ h => h) (by rfl) (by assumption) ?_ ?_; rotate_left; focus (intro w hSw; go_simp; first | done | with_reducible rfl)
   try simp only [Act.put, List.setIfInBounds_toArray, List.set_cons_zero, List.set_cons_succ]
   refine tk (i := 9) (oi := { dst := some 27, op := .slice 25 (.tmp 21) (some (.tmp 26)) none none, type := 25, pos := "play.go:47", after := #[{ on := 3, ground := .data }, { on := 8, ground := .data }], guard := none }) (v := ?_) rfl (by kernel_rfl) (by kernel_rfl) (by kernel_rfl) (fun _ _ _ h => h) (by rfl) (by assumption) ?_ ?_; rotate_left; focus (intro w hSw; go_simp; first | done | with_reducible rfl)
   try simp only [Act.put, List.setIfInBounds_toArray, List.set_cons_zero, List.set_cons_succ]
   refine wpAnyH_ready (rs := [2]) (by kernel_rfl) (by simp) ?_
   refine AllReadyH.cons (o := { dst := some 20, op := .load 29 (.tmp 19), type := 29, pos := "play.go:47", after := #[{ on := 1, ground := .data }], guard := none }) rfl (fun K hK => ?_) AllReadyH.nil
   go_simp
   skip
   clear hHeld
   refine hK.out _ _ (KS.out _ (grow_drew (Below.refl _ _))) (fun hHeld => ?_)
   clear hK K
   refine wpAnyH_ready (rs := [10]) (by kernel_rfl) (by simp) ?_
   refine AllReadyH.cons (o := { dst := some 28, op := .call { callee := .value (.func 39), args := #[.tmp 18, .tmp 20, .tmp 27], argTypes := #[24, 29, 25] }, type := 29, pos := "play.go:47", after := #[{ on := 0, ground := .data }, { on := 2, ground := .data }, { on := 9, ground := .data }], guard := none }) rfl (fun K hK => ?_) AllReadyH.nil
   go_simp
   go_wp2_with (go_at_call 39; refine (CX.out _ (grow_drew (Below.refl _ _))).mono ?_; rintro e w3 ⟨q5, rfl, h5, hb3⟩)
   have B3 : Hid (Below V2.heap.size V2 w3) := grow_trans (grow_drew (Below.refl _ _)) hb3
   have z0 := ext_cell B3.out o0'
   have z1 := ext_cell B3.out o1'
   have z2 := ext_cell B3.out o2'
   have z3 := ext_cell B3.out o3'
   have z4 := ext_cell B3.out o4'
   have zf : ∀ j, w3.frozen? ⟨W.heap.size, j, none⟩ = false := fun j => (B3.out.frozen (p := ⟨W.heap.size, j, none⟩) hOlt2).trans (of2 j)
   obtain ⟨y0, y1, y2, y3⟩ := put4 q5 z0 z1 z2 z3
   have y4 : ((((w3.setCell ⟨W.heap.size, 0, none⟩ (.slice q5.sa q5.sn q5.sc)).setCell ⟨W.heap.size, 1, none⟩ (.slice q5.ra q5.rn q5.rc)).setCell ⟨W.heap.size, 2, none⟩ (.slice q5.wa q5.wn q5.tc)).setCell ⟨W.heap.size, 3, none⟩ (.slice q5.va q5.vn q5.vc)).cell? ⟨W.heap.size, 4, none⟩ = some (.int .i64 (i : Int)) := set_off (by decide) (set_off (by decide) (set_off (by decide) (set_off (by decide) z4)))
   have PF : Hid (((((w3.setCell ⟨W.heap.size, 0, none⟩ (.slice q5.sa q5.sn q5.sc)).setCell ⟨W.heap.size, 1, none⟩ (.slice q5.ra q5.rn q5.rc)).setCell ⟨W.heap.size, 2, none⟩ (.slice q5.wa q5.wn q5.tc)).setCell ⟨W.heap.size, 3, none⟩ (.slice q5.va q5.vn q5.vc)).cell? ⟨w.heap.size, 0, none⟩ = some (.int .i64 m) ∧ ((((w3.setCell ⟨W.heap.size, 0, none⟩ (.slice q5.sa q5.sn q5.sc)).setCell ⟨W.heap.size, 1, none⟩ (.slice q5.ra q5.rn q5.rc)).setCell ⟨W.heap.size, 2, none⟩ (.slice q5.wa q5.wn q5.tc)).setCell ⟨W.heap.size, 3, none⟩ (.slice q5.va q5.vn q5.vc)).cell? ⟨w.heap.size, 1, none⟩ = some (.slice la l.length lc) ∧ ((((w3.setCell ⟨W.heap.size, 0, none⟩ (.slice q5.sa q5.sn q5.sc)).setCell ⟨W.heap.size, 1, none⟩ (.slice q5.ra q5.rn q5.rc)).setCell ⟨W.heap.size, 2, none⟩ (.slice q5.wa q5.wn q5.tc)).setCell ⟨W.heap.size, 3, none⟩ (.slice q5.va q5.vn q5.vc)).cell? ⟨W.heap.size, 4, none⟩ = some (.int .i64 (i : Int))) := ⟨put4_far hOP.out (KS.out _ B3.out).1, put4_far hOP.out (KS.out _ B3.out).2.1, y4⟩
   have HK5 : Hid (KO lo w.heap.size W.heap.size (runX m.toNat l pk s (i + 1)) q5 ((((w3.setCell ⟨W.heap.size, 0, none⟩ (.slice q5.sa q5.sn q5.sc)).setCell ⟨W.heap.size, 1, none⟩ (.slice q5.ra q5.rn q5.rc)).setCell ⟨W.heap.size, 2, none⟩ (.slice q5.wa q5.wn q5.tc)).setCell ⟨W.heap.size, 3, none⟩ (.slice q5.va q5.vn q5.vc))) := ((((h5.ko (by have := B2.out.size; have := hW.out.size; show lo ≤ V2.heap.size; omega) (by exact hOlt2)).set hW.out.size (Nat.le_refl _) 0 _).set hW.out.size (Nat.le_refl _) 1 _).set hW.out.size (Nat.le_refl _) 2 _).set hW.out.size (Nat.le_refl _) 3 _
   have BP : Hid (Below W.heap.size W ((((w3.setCell ⟨W.heap.size, 0, none⟩ (.slice q5.sa q5.sn q5.sc)).setCell ⟨W.heap.size, 1, none⟩ (.slice q5.ra q5.rn q5.rc)).setCell ⟨W.heap.size, 2, none⟩ (.slice q5.wa q5.wn q5.tc)).setCell ⟨W.heap.size, 3, none⟩ (.slice q5.va q5.vn q5.vc))) := grow_set (grow_set (grow_set (grow_set (grow_trans B2.out B3.out) hOW.out _) hOW.out _) hOW.out _) hOW.out _
   have PFz : ∀ j, ((((w3.setCell ⟨W.heap.size, 0, none⟩ (.slice q5.sa q5.sn q5.sc)).setCell ⟨W.heap.size, 1, none⟩ (.slice q5.ra q5.rn q5.rc)).setCell ⟨W.heap.size, 2, none⟩ (.slice q5.wa q5.wn q5.tc)).setCell ⟨W.heap.size, 3, none⟩ (.slice q5.va q5.vn q5.vc)).frozen? ⟨W.heap.size, j, none⟩ = false := fun j => by simpa using zf j
   clear hHeld
   refine hK.out _ _ (KS.out _ B3.out) (fun hHeld => ?_)
   clear hK K
   refine tk (i := 11) (oi := { dst := some 29, op := .fieldAddr 44 (.tmp 7) 0, type := 0, pos := "play.go:47", after := #[{ on := 0, ground := .phase }, { on := 1, ground := .phase }, { on := 2, ground := .phase }, { on := 3, ground := .phase }, { on := 4, ground := .phase }, { on := 5, ground := .phase }, { on := 6, ground := .phase }, { on := 7, ground := .phase }, { on := 8, ground := .phase }, { on := 9, ground := .phase }, { on := 10, ground := .phase }], guard := none }) (v := ?_) rfl (by kernel_rfl) (by kernel_rfl) (by kernel_rfl) (fun _ _ _ h => h) (by rfl) (by assumption) ?_ ?_; rotate_left; focus (intro w hSw; go_simp; first | done | with_reducible rfl)
   try simp only [Act.put, List.setIfInBounds_toArray, List.set_cons_zero, List.set_cons_succ]
   refine wpAnyH_ready (rs := [12]) (by kernel_rfl) (by simp) ?_
   refine AllReadyH.cons (o := { dst := none, op := .store 29 (.tmp 29) (.tmp 28), type := 0, pos := "play.go:47", after := #[{ on := 11, ground := .data }, { on := 10, ground := .data }, { on := 10, ground := .chain }, { on := 0, ground := .phase }, { on := 1, ground := .phase }, { on := 2, ground := .phase }, { on := 3, ground := .phase }, { on := 4, ground := .phase }, { on := 5, ground := .phase }, { on := 6, ground := .phase }, { on := 7, ground := .phase }, { on := 8, ground := .phase }, { on := 9, ground := .phase }, { on := 10, ground := .phase }], guard := none }) rfl (fun K hK => ?_) AllReadyH.nil
   go_simp
   skip
   clear hHeld
   refine hK.out _ _ (PF.out) (fun hHeld => ?_)
   clear hK K
   refine wpAnyH_done (by kernel_rfl) ?_ _
   go_wp2
   have hn : (i : Int) + 1 = ((i + 1 : Nat) : Int) := by omega
   obtain ⟨x0, x1, x2, x3, x4⟩ := put5 q5 ((i : Int) + 1) z0 z1 z2 z3 z4
   have x5 : (((((w3.setCell ⟨W.heap.size, 0, none⟩ (.slice q5.sa q5.sn q5.sc)).setCell ⟨W.heap.size, 1, none⟩ (.slice q5.ra q5.rn q5.rc)).setCell ⟨W.heap.size, 2, none⟩ (.slice q5.wa q5.wn q5.tc)).setCell ⟨W.heap.size, 3, none⟩ (.slice q5.va q5.vn q5.vc)).setCell ⟨W.heap.size, 4, none⟩ (.int .i64 ((i : Int) + 1))).cell? ⟨W.heap.size, 4, none⟩ = some (.int .i64 ((i + 1 : Nat) : Int)) := x4.trans (by rw [hn])
   clear hn x4
   have PZ : Hid (∀ j, (((((w3.setCell ⟨W.heap.size, 0, none⟩ (.slice q5.sa q5.sn q5.sc)).setCell ⟨W.heap.size, 1, none⟩ (.slice q5.ra q5.rn q5.rc)).setCell ⟨W.heap.size, 2, none⟩ (.slice q5.wa q5.wn q5.tc)).setCell ⟨W.heap.size, 3, none⟩ (.slice q5.va q5.vn q5.vc)).setCell ⟨W.heap.size, 4, none⟩ (.int .i64 ((i : Int) + 1))).frozen? ⟨W.heap.size, j, none⟩ = false) := fun j => by simpa using zf j
   have HK6 : Hid (KO lo w.heap.size W.heap.size (runX m.toNat l pk s (i + 1)) q5 (((((w3.setCell ⟨W.heap.size, 0, none⟩ (.slice q5.sa q5.sn q5.sc)).setCell ⟨W.heap.size, 1, none⟩ (.slice q5.ra q5.rn q5.rc)).setCell ⟨W.heap.size, 2, none⟩ (.slice q5.wa q5.wn q5.tc)).setCell ⟨W.heap.size, 3, none⟩ (.slice q5.va q5.vn q5.vc)).setCell ⟨W.heap.size, 4, none⟩ (.int .i64 ((i : Int) + 1)))) := HK5.out.set hW.out.size (Nat.le_refl _) 4 _
   have B6 : Hid (Below W.heap.size W (((((w3.setCell ⟨W.heap.size, 0, none⟩ (.slice q5.sa q5.sn q5.sc)).setCell ⟨W.heap.size, 1, none⟩ (.slice q5.ra q5.rn q5.rc)).setCell ⟨W.heap.size, 2, none⟩ (.slice q5.wa q5.wn q5.tc)).setCell ⟨W.heap.size, 3, none⟩ (.slice q5.va q5.vn q5.vc)).setCell ⟨W.heap.size, 4, none⟩ (.int .i64 ((i : Int) + 1)))) := grow_set BP.out hOW.out _
   have X : Hid ((((((w3.setCell ⟨W.heap.size, 0, none⟩ (.slice q5.sa q5.sn q5.sc)).setCell ⟨W.heap.size, 1, none⟩ (.slice q5.ra q5.rn q5.rc)).setCell ⟨W.heap.size, 2, none⟩ (.slice q5.wa q5.wn q5.tc)).setCell ⟨W.heap.size, 3, none⟩ (.slice q5.va q5.vn q5.vc)).setCell ⟨W.heap.size, 4, none⟩ (.int .i64 ((i : Int) + 1))).cell? ⟨W.heap.size, 0, none⟩ = some (.slice q5.sa q5.sn q5.sc) ∧ (((((w3.setCell ⟨W.heap.size, 0, none⟩ (.slice q5.sa q5.sn q5.sc)).setCell ⟨W.heap.size, 1, none⟩ (.slice q5.ra q5.rn q5.rc)).setCell ⟨W.heap.size, 2, none⟩ (.slice q5.wa q5.wn q5.tc)).setCell ⟨W.heap.size, 3, none⟩ (.slice q5.va q5.vn q5.vc)).setCell ⟨W.heap.size, 4, none⟩ (.int .i64 ((i : Int) + 1))).cell? ⟨W.heap.size, 1, none⟩ = some (.slice q5.ra q5.rn q5.rc) ∧ (((((w3.setCell ⟨W.heap.size, 0, none⟩ (.slice q5.sa q5.sn q5.sc)).setCell ⟨W.heap.size, 1, none⟩ (.slice q5.ra q5.rn q5.rc)).setCell ⟨W.heap.size, 2, none⟩ (.slice q5.wa q5.wn q5.tc)).setCell ⟨W.heap.size, 3, none⟩ (.slice q5.va q5.vn q5.vc)).setCell ⟨W.heap.size, 4, none⟩ (.int .i64 ((i : Int) + 1))).cell? ⟨W.heap.size, 2, none⟩ = some (.slice q5.wa q5.wn q5.tc) ∧ (((((w3.setCell ⟨W.heap.size, 0, none⟩ (.slice q5.sa q5.sn q5.sc)).setCell ⟨W.heap.size, 1, none⟩ (.slice q5.ra q5.rn q5.rc)).setCell ⟨W.heap.size, 2, none⟩ (.slice q5.wa q5.wn q5.tc)).setCell ⟨W.heap.size, 3, none⟩ (.slice q5.va q5.vn q5.vc)).setCell ⟨W.heap.size, 4, none⟩ (.int .i64 ((i : Int) + 1))).cell? ⟨W.heap.size, 3, none⟩ = some (.slice q5.va q5.vn q5.vc) ∧ (((((w3.setCell ⟨W.heap.size, 0, none⟩ (.slice q5.sa q5.sn q5.sc)).setCell ⟨W.heap.size, 1, none⟩ (.slice q5.ra q5.rn q5.rc)).setCell ⟨W.heap.size, 2, none⟩ (.slice q5.wa q5.wn q5.tc)).setCell ⟨W.heap.size, 3, none⟩ (.slice q5.va q5.vn q5.vc)).setCell ⟨W.heap.size, 4, none⟩ (.int .i64 ((i : Int) + 1))).cell? ⟨W.heap.size, 4, none⟩ = some (.int .i64 ((i + 1) : Nat))) := ⟨x0, x1, x2, x3, x5⟩
   clear x0 x1 x2 x3
   go_roundw
   case rel => exact ⟨i + 1, q5, hlt, X, PZ, HK6, B6⟩
   case measure =>
    rw [x5, O4.out]
    show N - (((i + 1 : Nat) : Int)).toNat < N - ((i : Nat) : Int).toNat
    rw [Int.toNat_natCast, Int.toNat_natCast]
    omega
end Go.Proofs.YtcgpkonfneofdaaGreat
