/-
  
  Conditions: those that each theorem states.
-/
import Derived.Test.YtebjkmknhpgemaaGreatSPlayH
import Derived.Test.YtebjkmknhpgemaaGreatSDocF
set_option maxRecDepth 100000
namespace Go.Proofs.YtebjkmknhpgemaaGreat
open Go.RowKit
structure RW (sh : Nat) (l : List TxA) (X : Nat → SA) (K : Nat) : Prop where
 fm : ∀ i, i ≤ K → Form sh l (X i)
 ov : ∀ i, i ≤ K → overB sh l (X i) = decide (i = K)
 can : ∀ i, i < K → 0 < (canL sh l (X i)).length
 kd : ∀ i, i < K → ((canL sh l (X i)).getD 0 (0, 0, 0)).1 = 1 ∨ ((canL sh l (X i)).getD 0 (0, 0, 0)).1 = 2
 tx : ∀ i, i < K → ((canL sh l (X i)).getD 0 (0, 0, 0)).2.1 < l.length
 sd : ∀ i, i < K → ((canL sh l (X i)).getD 0 (0, 0, 0)).2.2 < sh
 nx : ∀ i, i < K → doX sh l (X i) ((canL sh l (X i)).getD 0 (0, 0, 0)).1 ((canL sh l (X i)).getD 0 (0, 0, 0)).2.1 ((canL sh l (X i)).getD 0 (0, 0, 0)).2.2 = X (i + 1)
 few : K ≤ 64
section
variable {la : Option Addr} {lc : Nat} {l : List TxA} {q : Q4} {S : SA} {w : World} {sh : Nat}
theorem docOver_q (hl : IsTxs w la l) (hq : StaQ S q w) (hp : planE (sh : Int) l = 0) (hF : Form sh l S) : Calls Tryz.prog 23 #[.agg #[.int .i64 (sh : Int), .slice la l.length lc], .agg #[.slice q.sa q.sn q.sc, .slice q.ra q.rn q.rc, .slice q.wa q.wn q.tc, .slice q.va q.vn q.vc]] w fun e w' => e = .returned (.bool (overB sh l S)) ∧ Below w.heap.size w w' := by
 obtain ⟨e1, e2, e3, e4, hs⟩ := hq
 rw [e1, e2, e3, e4]
 exact docOver_any la lc l q.sa q.ra q.wa q.va q.sc q.rc q.tc q.vc S sh w hl hs hp hF
end
variable (la : Option Addr) (lc : Nat) (l : List TxA)
end Go.Proofs.YtebjkmknhpgemaaGreat
namespace Go.Proofs.YtebjkmknhpgemaaGreat
open Go.RowKit
section
variable {la : Option Addr} {lc : Nat} {l : List TxA} {q : Q4} {S : SA} {w : World}
theorem docCheck_q (m : Int) (hl : IsTxs w la l) (hq : StaQ S q w) : Calls Tryz.prog 19 #[.agg #[.int .i64 m, .slice la l.length lc], .agg #[.slice q.sa q.sn q.sc, .slice q.ra q.rn q.rc, .slice q.wa q.wn q.tc, .slice q.va q.vn q.vc]] w fun e w' => e = .returned (.int .i64 (stE m l S)) ∧ Below w.heap.size w w' := by
 obtain ⟨e1, e2, e3, e4, hs⟩ := hq
 rw [e1, e2, e3, e4]
 exact docCheck_any la lc l q.sa q.ra q.wa q.va q.sc q.rc q.tc q.vc S m w hl hs
end
variable (la : Option Addr) (lc : Nat) (l : List TxA) (q : Q4) (S : SA)
set_option maxHeartbeats 4000000 in
theorem docResults_st (m : Int) (w : World) (hl : IsTxs w la l) (hs : StaQ S q w) (hst : ¬ stE m l S = 0) :
  Calls Tryz.prog 34 #[.agg #[.int .i64 m, .slice la l.length lc], .agg #[.slice q.sa q.sn q.sc, .slice q.ra q.rn q.rc, .slice q.wa q.wn q.tc, .slice q.va q.vn q.vc]] w fun e w' => e = .returned (.tuple #[.slice none 0 0, .int .i64 (stE m l S)]) ∧ Below w.heap.size w w' := by
 obtain ⟨W, hWe⟩ : ∃ W : World, W = ((w.alloc (.cells #[.int .i64 m, .slice la l.length lc] 24)).alloc (.cells #[.slice q.sa q.sn q.sc, .slice q.ra q.rn q.rc, .slice q.wa q.wn q.tc, .slice q.va q.vn q.vc] 29)) := ⟨_, rfl⟩
 have hU : Hid (Below w.heap.size w W) := by subst hWe; exact (grow_alloc (grow_alloc (Below.refl _ _) _) _)
 have p0 : W.cell? ⟨w.heap.size, 0, none⟩ = some (.int .i64 m) := by subst hWe; exact ext_cell (grow_alloc (Below.refl _ _) _) (at_new _ _ 24 _ 0 _ rfl rfl)
 have p1 : W.cell? ⟨w.heap.size, 1, none⟩ = some (.slice la l.length lc) := by subst hWe; exact ext_cell (grow_alloc (Below.refl _ _) _) (at_new _ _ 24 _ 1 _ rfl rfl)
 have z0 : W.cell? ⟨w.heap.size + 1, 0, none⟩ = some (.slice q.sa q.sn q.sc) := by subst hWe; exact at_new _ _ 29 _ 0 _ (by simp) rfl
 have z1 : W.cell? ⟨w.heap.size + 1, 1, none⟩ = some (.slice q.ra q.rn q.rc) := by subst hWe; exact at_new _ _ 29 _ 1 _ (by simp) rfl
 have z2 : W.cell? ⟨w.heap.size + 1, 2, none⟩ = some (.slice q.wa q.wn q.tc) := by subst hWe; exact at_new _ _ 29 _ 2 _ (by simp) rfl
 have z3 : W.cell? ⟨w.heap.size + 1, 3, none⟩ = some (.slice q.va q.vn q.vc) := by subst hWe; exact at_new _ _ 29 _ 3 _ (by simp) rfl
 have KEEP : Hid (∀ w', Below W.heap.size W w' → w'.cell? ⟨w.heap.size, 0, none⟩ = some (.int .i64 m) ∧ w'.cell? ⟨w.heap.size, 1, none⟩ = some (.slice la l.length lc) ∧ w'.cell? ⟨w.heap.size + 1, 0, none⟩ = some (.slice q.sa q.sn q.sc) ∧ w'.cell? ⟨w.heap.size + 1, 1, none⟩ = some (.slice q.ra q.rn q.rc) ∧ w'.cell? ⟨w.heap.size + 1, 2, none⟩ = some (.slice q.wa q.wn q.tc) ∧ w'.cell? ⟨w.heap.size + 1, 3, none⟩ = some (.slice q.va q.vn q.vc)) := fun w' hb => ⟨ext_cell hb p0, ext_cell hb p1, ext_cell hb z0, ext_cell hb z1, ext_cell hb z2, ext_cell hb z3⟩
 have HL : Hid (IsTxs W la l) := hl.below hU.out
 have HS : Hid (StaQ S q W) := hs.below hU.out
 have HWe : Hid (W = _) := hWe
 clear p0 p1 z0 z1 z2 z3 hl hs hWe
 have CC : Hid (Calls Tryz.prog 19 #[.agg #[.int .i64 m, .slice la l.length lc], .agg #[.slice q.sa q.sn q.sc, .slice q.ra q.rn q.rc, .slice q.wa q.wn q.tc, .slice q.va q.vn q.vc]] W fun e w' => e = .returned (.int .i64 (stE m l S)) ∧ Below W.heap.size W w') := docCheck_q m HL.out HS.out
 generalize stE m l S = E at *
 go_enter Tryz.func34, Tryz.ntmps34
 go_upto_region 1 with fail
 rw [← HWe.out]
 clear HWe
 obtain ⟨p0, p1, z0, z1, z2, z3⟩ := KEEP.out W (Below.refl _ _)
 go_wp2_with fail
 refine CC.out.mono ?_
 rintro e w1 ⟨rfl, hb1⟩
 have B1 : Hid (Below w.heap.size w w1) := grow_trans hU.out hb1
 clear hb1
 go_wp2
 go_ret2
 exact ⟨rfl, B1.out⟩
set_option maxHeartbeats 4000000 in
theorem docResults_left (sh : Nat) (w : World) (hl : IsTxs w la l) (hs : StaQ S q w) (hst : stE (sh : Int) l S = 0) (hov : overB sh l S = false) :
  Calls Tryz.prog 34 #[.agg #[.int .i64 (sh : Int), .slice la l.length lc], .agg #[.slice q.sa q.sn q.sc, .slice q.ra q.rn q.rc, .slice q.wa q.wn q.tc, .slice q.va q.vn q.vc]] w fun e w' => e = .returned (.tuple #[.slice none 0 0, .int .i64 8]) ∧ Below w.heap.size w w' := by
 obtain ⟨W, hWe⟩ : ∃ W : World, W = ((w.alloc (.cells #[.int .i64 (sh : Int), .slice la l.length lc] 24)).alloc (.cells #[.slice q.sa q.sn q.sc, .slice q.ra q.rn q.rc, .slice q.wa q.wn q.tc, .slice q.va q.vn q.vc] 29)) := ⟨_, rfl⟩
 have hU : Hid (Below w.heap.size w W) := by subst hWe; exact (grow_alloc (grow_alloc (Below.refl _ _) _) _)
 have p0 : W.cell? ⟨w.heap.size, 0, none⟩ = some (.int .i64 (sh : Int)) := by subst hWe; exact ext_cell (grow_alloc (Below.refl _ _) _) (at_new _ _ 24 _ 0 _ rfl rfl)
 have p1 : W.cell? ⟨w.heap.size, 1, none⟩ = some (.slice la l.length lc) := by subst hWe; exact ext_cell (grow_alloc (Below.refl _ _) _) (at_new _ _ 24 _ 1 _ rfl rfl)
 have z0 : W.cell? ⟨w.heap.size + 1, 0, none⟩ = some (.slice q.sa q.sn q.sc) := by subst hWe; exact at_new _ _ 29 _ 0 _ (by simp) rfl
 have z1 : W.cell? ⟨w.heap.size + 1, 1, none⟩ = some (.slice q.ra q.rn q.rc) := by subst hWe; exact at_new _ _ 29 _ 1 _ (by simp) rfl
 have z2 : W.cell? ⟨w.heap.size + 1, 2, none⟩ = some (.slice q.wa q.wn q.tc) := by subst hWe; exact at_new _ _ 29 _ 2 _ (by simp) rfl
 have z3 : W.cell? ⟨w.heap.size + 1, 3, none⟩ = some (.slice q.va q.vn q.vc) := by subst hWe; exact at_new _ _ 29 _ 3 _ (by simp) rfl
 have KEEP : Hid (∀ w', Below W.heap.size W w' → w'.cell? ⟨w.heap.size, 0, none⟩ = some (.int .i64 (sh : Int)) ∧ w'.cell? ⟨w.heap.size, 1, none⟩ = some (.slice la l.length lc) ∧ w'.cell? ⟨w.heap.size + 1, 0, none⟩ = some (.slice q.sa q.sn q.sc) ∧ w'.cell? ⟨w.heap.size + 1, 1, none⟩ = some (.slice q.ra q.rn q.rc) ∧ w'.cell? ⟨w.heap.size + 1, 2, none⟩ = some (.slice q.wa q.wn q.tc) ∧ w'.cell? ⟨w.heap.size + 1, 3, none⟩ = some (.slice q.va q.vn q.vc)) := fun w' hb => ⟨ext_cell hb p0, ext_cell hb p1, ext_cell hb z0, ext_cell hb z1, ext_cell hb z2, ext_cell hb z3⟩
 have HL : Hid (IsTxs W la l) := hl.below hU.out
 have HS : Hid (StaQ S q W) := hs.below hU.out
 have HWe : Hid (W = _) := hWe
 clear p0 p1 z0 z1 z2 z3 hl hs hWe
 have CC : Hid (Calls Tryz.prog 19 #[.agg #[.int .i64 (sh : Int), .slice la l.length lc], .agg #[.slice q.sa q.sn q.sc, .slice q.ra q.rn q.rc, .slice q.wa q.wn q.tc, .slice q.va q.vn q.vc]] W fun e w' => e = .returned (.int .i64 0) ∧ Below W.heap.size W w') := by
  have h := docCheck_q (lc := lc) (sh : Int) HL.out HS.out
  rw [hst] at h
  exact h
 have CV : Hid (∀ w', Below W.heap.size W w' → Calls Tryz.prog 23 #[.agg #[.int .i64 (sh : Int), .slice la l.length lc], .agg #[.slice q.sa q.sn q.sc, .slice q.ra q.rn q.rc, .slice q.wa q.wn q.tc, .slice q.va q.vn q.vc]] w' fun e w'' => e = .returned (.bool false) ∧ Below w'.heap.size w' w'') := fun w' hb => by
  obtain ⟨sh', e, _, _, hc, hp, hf, _⟩ := stE_zero hst
  have e' : sh' = sh := by omega
  subst e'
  have h := docOver_q (lc := lc) (HL.out.below hb) (HS.out.below hb) hp (formB_iff.1 hf)
  rw [hov] at h
  exact h
 clear hst hov
 go_enter Tryz.func34, Tryz.ntmps34
 go_upto_region 1 with fail
 rw [← HWe.out]
 clear HWe
 obtain ⟨p0, p1, z0, z1, z2, z3⟩ := KEEP.out W (Below.refl _ _)
 go_wp2_with fail
 refine CC.out.mono ?_
 rintro e w1 ⟨rfl, hb1⟩
 clear p0 p1 z0 z1 z2 z3
 obtain ⟨p0, p1, z0, z1, z2, z3⟩ := KEEP.out w1 hb1
 go_wp2_with fail
 refine (CV.out _ hb1).mono ?_
 rintro e w2 ⟨rfl, hb2⟩
 have B2 : Hid (Below w.heap.size w w2) := grow_trans hU.out (grow_trans hb1 hb2)
 clear hb1 hb2 p0 p1 z0 z1 z2 z3
 go_wp2
 go_ret2
 exact ⟨rfl, B2.out⟩
set_option maxHeartbeats 8000000 in
theorem docResults_ok (sh : Nat) (w : World) (hl : IsTxs w la l) (hs : StaQ S q w) (hst : stE (sh : Int) l S = 0) (hov : overB sh l S = true) :
  Calls Tryz.prog 34 #[.agg #[.int .i64 (sh : Int), .slice la l.length lc], .agg #[.slice q.sa q.sn q.sc, .slice q.ra q.rn q.rc, .slice q.wa q.wn q.tc, .slice q.va q.vn q.vc]] w fun e w' => ∃ xa xc, e = .returned (.tuple #[.slice xa (resL l S l.length).length xc, .int .i64 0]) ∧ IsRes w' xa (resL l S l.length) ∧ Below w.heap.size w w' := by
 obtain ⟨W, hWe⟩ : ∃ W : World, W = ((w.alloc (.cells #[.int .i64 (sh : Int), .slice la l.length lc] 24)).alloc (.cells #[.slice q.sa q.sn q.sc, .slice q.ra q.rn q.rc, .slice q.wa q.wn q.tc, .slice q.va q.vn q.vc] 29)) := ⟨_, rfl⟩
 have hU : Hid (Below w.heap.size w W) := by subst hWe; exact (grow_alloc (grow_alloc (Below.refl _ _) _) _)
 have p0 : W.cell? ⟨w.heap.size, 0, none⟩ = some (.int .i64 (sh : Int)) := by subst hWe; exact ext_cell (grow_alloc (Below.refl _ _) _) (at_new _ _ 24 _ 0 _ rfl rfl)
 have p1 : W.cell? ⟨w.heap.size, 1, none⟩ = some (.slice la l.length lc) := by subst hWe; exact ext_cell (grow_alloc (Below.refl _ _) _) (at_new _ _ 24 _ 1 _ rfl rfl)
 have z0 : W.cell? ⟨w.heap.size + 1, 0, none⟩ = some (.slice q.sa q.sn q.sc) := by subst hWe; exact at_new _ _ 29 _ 0 _ (by simp) rfl
 have z1 : W.cell? ⟨w.heap.size + 1, 1, none⟩ = some (.slice q.ra q.rn q.rc) := by subst hWe; exact at_new _ _ 29 _ 1 _ (by simp) rfl
 have z2 : W.cell? ⟨w.heap.size + 1, 2, none⟩ = some (.slice q.wa q.wn q.tc) := by subst hWe; exact at_new _ _ 29 _ 2 _ (by simp) rfl
 have z3 : W.cell? ⟨w.heap.size + 1, 3, none⟩ = some (.slice q.va q.vn q.vc) := by subst hWe; exact at_new _ _ 29 _ 3 _ (by simp) rfl
 have KEEP : Hid (∀ w', Below W.heap.size W w' → w'.cell? ⟨w.heap.size, 0, none⟩ = some (.int .i64 (sh : Int)) ∧ w'.cell? ⟨w.heap.size, 1, none⟩ = some (.slice la l.length lc) ∧ w'.cell? ⟨w.heap.size + 1, 0, none⟩ = some (.slice q.sa q.sn q.sc) ∧ w'.cell? ⟨w.heap.size + 1, 1, none⟩ = some (.slice q.ra q.rn q.rc) ∧ w'.cell? ⟨w.heap.size + 1, 2, none⟩ = some (.slice q.wa q.wn q.tc) ∧ w'.cell? ⟨w.heap.size + 1, 3, none⟩ = some (.slice q.va q.vn q.vc)) := fun w' hb => ⟨ext_cell hb p0, ext_cell hb p1, ext_cell hb z0, ext_cell hb z1, ext_cell hb z2, ext_cell hb z3⟩
 have HL : Hid (IsTxs W la l) := hl.below hU.out
 have HS : Hid (StaQ S q W) := hs.below hU.out
 have HWe : Hid (W = _) := hWe
 clear p0 p1 z0 z1 z2 z3 hl hs hWe
 have CC : Hid (Calls Tryz.prog 19 #[.agg #[.int .i64 (sh : Int), .slice la l.length lc], .agg #[.slice q.sa q.sn q.sc, .slice q.ra q.rn q.rc, .slice q.wa q.wn q.tc, .slice q.va q.vn q.vc]] W fun e w' => e = .returned (.int .i64 0) ∧ Below W.heap.size W w') := by
  have h := docCheck_q (lc := lc) (sh : Int) HL.out HS.out
  rw [hst] at h
  exact h
 have CV : Hid (∀ w', Below W.heap.size W w' → Calls Tryz.prog 23 #[.agg #[.int .i64 (sh : Int), .slice la l.length lc], .agg #[.slice q.sa q.sn q.sc, .slice q.ra q.rn q.rc, .slice q.wa q.wn q.tc, .slice q.va q.vn q.vc]] w' fun e w'' => e = .returned (.bool true) ∧ Below w'.heap.size w' w'') := fun w' hb => by
  obtain ⟨sh', e, _, _, hc, hp, hf, _⟩ := stE_zero hst
  have e' : sh' = sh := by omega
  subst e'
  have h := docOver_q (lc := lc) (HL.out.below hb) (HS.out.below hb) hp (formB_iff.1 hf)
  rw [hov] at h
  exact h
 have hl8 : l.length ≤ 8 := by
  obtain ⟨sh, _, _, _, hc, _⟩ := stE_zero hst
  exact chkL_len hc
 have HV : Hid (IsII W q.va S.vs) := HS.out.2.2.2.2.vs
 have HN : Hid (q.vn = S.vs.length) := HS.out.2.2.2.1
 have HST : Hid (stE (sh : Int) l S = 0) := hst
 clear hst hov HS
 go_enter Tryz.func34, Tryz.ntmps34
 go_upto_region 1 with fail
 rw [← HWe.out]
 clear HWe
 obtain ⟨p0, p1, z0, z1, z2, z3⟩ := KEEP.out W (Below.refl _ _)
 go_wp2_with fail
 refine CC.out.mono ?_
 rintro e w1 ⟨rfl, hb1⟩
 clear p0 p1 z0 z1 z2 z3
 obtain ⟨p0, p1, z0, z1, z2, z3⟩ := KEEP.out w1 hb1
 go_wp2_with fail
 refine (CV.out _ hb1).mono ?_
 rintro e w2 ⟨rfl, hb2⟩
 have B2 : Hid (Below W.heap.size W w2) := grow_trans hb1 hb2
 clear hb1 hb2 p0 p1 z0 z1 z2 z3 CC CV
 go_wp2
 go_loopw [7, 8] (fun v i wr => ∃ (k : Nat) (rl : List RsA), k ≤ l.length ∧ i = .int .i64 k ∧ Hid (ResRow W.heap.size wr v rl) ∧ Hid (rl.map RsA.told = resL l S k) ∧ Hid (Below W.heap.size W wr)) (fun _ i _ => l.length - (intOf i).toNat)
 case atStart => exact ⟨0, [], Nat.zero_le _, rfl, resRow_nil _ _, rfl, B2⟩
 case round =>
  clear B2
  obtain ⟨k, rl, hk, rfl, hres, htold, hbl⟩ := hrel
  obtain ⟨p0, p1, z0, z1, z2, z3⟩ := KEEP.out wr hbl.out
  by_cases hlt : k < l.length
  ·obtain ⟨b, off, rfl, hb, c0, c1, c2, hx⟩ := HL.out k hlt
   have d0 := ext_cell hbl.out c0
   have d1 := ext_cell hbl.out c1
   have d2 := ext_cell hbl.out c2
   obtain ⟨hrun, hvl⟩ := st_runE HST.out hlt
   obtain ⟨vb, vo, za, zc, hva, hvb, r0, hz, hzn⟩ := HV.out k (by omega)
   have HX : Hid (IsX W (gX l k)) := hx
   have HT : Hid (resL l S (k + 1) = resL l S k ++ [(allG (S.vs.getD k []) (gX l k).gs, S.vs.getD k [])]) := resL_step l S k
   have HR1 : Hid ((resL l S k).length = k) := resL_len l S k
   have HZ : Hid (IsInts W za (S.vs.getD k [])) := hz
   have hvn : k < q.vn := by rw [HN.out]; omega
   have i1 : (k : Int) < (l.length : Int) := by omega
   have hZL : (S.vs.getD k []).length = (gX l k).rs.length := by
    obtain ⟨sh', e, _, _, hc, hp, hf, _⟩ := stE_zero HST.out
    exact (formB_iff.1 hf).vn k hlt
   have hck : chkTx (gX l k).rs (gX l k).gs (gX l k).ss = 0 := by
    obtain ⟨sh', e, _, _, hc, hp, hf, _⟩ := stE_zero HST.out
    exact chkL_in hc k hlt
   rw [hva] at z3
   change wr.cell? ⟨b, off + k * 3, none⟩ = some (.slice (gX l k).ra (gX l k).rs.length (gX l k).rc) at d0
   change wr.cell? ⟨b, off + k * 3 + 1, none⟩ = some (.slice (gX l k).ga (gX l k).gs.length (gX l k).gc) at d1
   change wr.cell? ⟨b, off + k * 3 + 2, none⟩ = some (.slice (gX l k).sa (gX l k).ss.length (gX l k).sc) at d2
   generalize gX l k = x at *
   obtain ⟨ra, ga, sa, rc, gc, sc, rs, gs, ss⟩ := x
   simp only at d0 d1 d2 HT hck hZL
   generalize S.vs.getD k [] = Z at *
   have hsm := many_small _ _ _ (chk_parts hck).1
   obtain ⟨M, hM⟩ : ∃ M, M = (madeOf Z gs ss).length := ⟨_, rfl⟩
   have CX0 : Hid (∀ w', Below W.heap.size W w' → Calls Tryz.prog 82 #[.agg #[.slice ra rs.length rc, .slice ga gs.length gc, .slice sa ss.length sc], .slice za Z.length zc] w' fun e w'' => ∃ va vc ma mc, e = .returned (.tuple #[.agg #[.bool (allG Z gs), .slice va Z.length vc], .slice ma M mc]) ∧ IsAt w'.heap.size w''.heap.size w'' va Z ∧ Below w'.heap.size w' w'') := fun w' hb => by
    have h := runOf_any ra ga sa rc gc sc rs gs ss za zc Z w' (HX.out.t.below hb) (HZ.out.below hb) hzn (by rw [hZL]; exact hsm.1) hZL (chk_parts hck).2.2.1 (chk_parts hck).2.2.2 hsm.2.2.1 hsm.2.1
    rw [← hM] at h
    refine h.mono ?_
    rintro e w'' ⟨va, vc, ma, mc, rfl, h1, _, h2⟩
    exact ⟨va, vc, ma, mc, rfl, h1, h2⟩
   generalize hD : allG Z gs = D at *
   have CX : Hid (∀ w', Below W.heap.size W w' → Calls Tryz.prog 82 #[.agg #[.slice ra rs.length rc, .slice ga gs.length gc, .slice sa ss.length sc], .slice za Z.length zc] w' fun e w'' => ∃ va vc ma mc, e = .returned (.tuple #[.agg #[.bool D, .slice va Z.length vc], .slice ma M mc]) ∧ IsAt w'.heap.size w''.heap.size w'' va Z ∧ Below w'.heap.size w' w'') := CX0
   have hrl : rl.length ≤ 100 := by
    have h := congrArg List.length htold.out
    rw [List.length_map, HR1.out] at h
    omega
   have r0 := ext_cell hbl.out r0
   clear c0 c1 c2 hx hz hrun hM HX HZ hb hvb hzn hva hZL hck hsm CX0 hD
   go_upto_region 10 with fail
   obtain ⟨V, hVe⟩ : ∃ V : World, wr = V := ⟨_, rfl⟩
   subst hVe
   have hown : Hid (∀ j, u7.ownBlock = some j → W.heap.size ≤ j ∧ j < wr.heap.size) := fun j hj => hres.out.1.lt j hj
   have KS : Hid (∀ w', Below wr.heap.size wr w' → w'.cell? ⟨w.heap.size, 1, none⟩ = some (.slice (some ⟨b, off, none⟩) l.length lc) ∧ w'.cell? ⟨b, off + k * 3, none⟩ = some (.slice ra rs.length rc) ∧ w'.cell? ⟨b, off + k * 3 + 1, none⟩ = some (.slice ga gs.length gc) ∧ w'.cell? ⟨b, off + k * 3 + 2, none⟩ = some (.slice sa ss.length sc) ∧ w'.cell? ⟨w.heap.size + 1, 3, none⟩ = some (.slice (some ⟨vb, vo, none⟩) q.vn q.vc) ∧ w'.cell? ⟨vb, vo + k, none⟩ = some (.slice za Z.length zc)) := fun w' hb => ⟨ext_cell hb p1, ext_cell hb d0, ext_cell hb d1, ext_cell hb d2, ext_cell hb z3, ext_cell hb r0⟩
   clear p0 p1 z0 z1 z2 z3 d0 d1 d2 r0
   refine wp_region_held_drew (S := (fun w' => w'.cell? ⟨w.heap.size, 1, none⟩ = some (.slice (some ⟨b, off, none⟩) l.length lc) ∧ w'.cell? ⟨b, off + k * 3, none⟩ = some (.slice ra rs.length rc) ∧ w'.cell? ⟨b, off + k * 3 + 1, none⟩ = some (.slice ga gs.length gc) ∧ w'.cell? ⟨b, off + k * 3 + 2, none⟩ = some (.slice sa ss.length sc) ∧ w'.cell? ⟨w.heap.size + 1, 3, none⟩ = some (.slice (some ⟨vb, vo, none⟩) q.vn q.vc) ∧ w'.cell? ⟨vb, vo + k, none⟩ = some (.slice za Z.length zc))) (by kernel_rfl) ?_ (fun hHeld => ?_)
   ·exact KS.out _ (grow_drew (Below.refl _ _))
   refine tk (i := 0) (oi := { dst := some 29, op := .fieldAddr 24 (.tmp 2) 1, type := 0, pos := "steps.go:239", after := #[], guard := none }) (v := ?_) rfl (by kernel_rfl) (by kernel_rfl) (by kernel_rfl) (fun _ _ _ h => h) (by rfl) (by assumption) ?_ ?_; rotate_left; focus (intro w hSw; go_simp; first | done | with_reducible rfl)
   try simp only [Act.put, List.setIfInBounds_toArray, List.set_cons_zero, List.set_cons_succ]
   refine tk (i := 1) (oi := { dst := some 30, op := .load 22 (.tmp 29), type := 22, pos := "steps.go:239", after := #[{ on := 0, ground := .data }], guard := none }) (v := ?_) rfl (by kernel_rfl) (by kernel_rfl) (by kernel_rfl) (fun _ _ _ h => h) (by rfl) (by assumption) ?_ ?_; rotate_left; focus (intro w hSw; go_simp; first | done | with_reducible rfl)
   try simp only [Act.put, List.setIfInBounds_toArray, List.set_cons_zero, List.set_cons_succ]
   refine tk (i := 2) (oi := { dst := some 31, op := .move (.tmp 8), type := 3, pos := "steps.go:239", after := #[], guard := none }) (v := ?_) rfl (by kernel_rfl) (by kernel_rfl) (by kernel_rfl) (fun _ _ _ h => h) (by rfl) (by assumption) ?_ ?_; rotate_left; focus (intro w hSw; go_simp; first | done | with_reducible rfl)
   try simp only [Act.put, List.setIfInBounds_toArray, List.set_cons_zero, List.set_cons_succ]
   refine tk (i := 3) (oi := { dst := some 32, op := .indexAddr 22 (.tmp 30) (.tmp 31), type := 0, pos := "steps.go:239", after := #[{ on := 1, ground := .data }, { on := 2, ground := .data }], guard := none }) (v := ?_) rfl (by kernel_rfl) (by kernel_rfl) (by kernel_rfl) (fun _ _ _ h => h) (by rfl) (by assumption) ?_ ?_; rotate_left; focus (intro w hSw; go_simp; first | done | with_reducible rfl)
   try simp only [Act.put, List.setIfInBounds_toArray, List.set_cons_zero, List.set_cons_succ]
   refine tk (i := 4) (oi := { dst := some 33, op := .load 79 (.tmp 32), type := 79, pos := "steps.go:239", after := #[{ on := 3, ground := .data }], guard := none }) (v := ?_) rfl (by kernel_rfl) (by kernel_rfl) (by kernel_rfl) (fun _ _ _ h => h) (by rfl) (by assumption) ?_ ?_; rotate_left; focus (intro w hSw; go_simp; first | done | with_reducible rfl)
   try simp only [Act.put, List.setIfInBounds_toArray, List.set_cons_zero, List.set_cons_succ]
   refine tk (i := 5) (oi := { dst := some 34, op := .fieldAddr 29 (.tmp 3) 3, type := 0, pos := "steps.go:239", after := #[], guard := none }) (v := ?_) rfl (by kernel_rfl) (by kernel_rfl) (by kernel_rfl) (fun _ _ _ h => h) (by rfl) (by assumption) ?_ ?_; rotate_left; focus (intro w hSw; go_simp; first | done | with_reducible rfl)
   try simp only [Act.put, List.setIfInBounds_toArray, List.set_cons_zero, List.set_cons_succ]
   refine tk (i := 6) (oi := { dst := some 35, op := .load 27 (.tmp 34), type := 27, pos := "steps.go:239", after := #[{ on := 5, ground := .data }], guard := none }) (v := ?_) rfl (by kernel_rfl) (by kernel_rfl) (by kernel_rfl) (fun _ _ _ h => h) (by rfl) (by assumption) ?_ ?_; rotate_left; focus (intro w hSw; go_simp; first | done | with_reducible rfl)
   try simp only [Act.put, List.setIfInBounds_toArray, List.set_cons_zero, List.set_cons_succ]
   refine tk (i := 7) (oi := { dst := some 36, op := .move (.tmp 8), type := 3, pos := "steps.go:239", after := #[], guard := none }) (v := ?_) rfl (by kernel_rfl) (by kernel_rfl) (by kernel_rfl) (fun _ _ _ h => h) (by rfl) (by assumption) ?_ ?_; rotate_left; focus (intro w hSw; go_simp; first | done | with_reducible rfl)
   try simp only [Act.put, List.setIfInBounds_toArray, List.set_cons_zero, List.set_cons_succ]
   refine tk (i := 8) (oi := { dst := some 37, op := .indexAddr 27 (.tmp 35) (.tmp 36), type := 0, pos := "steps.go:239", after := #[{ on := 6, ground := .data }, { on := 7, ground := .data }], guard := none }) (v := ?_) rfl (by kernel_rfl) (by kernel_rfl) (by kernel_rfl) (fun _ _ _ h => h) (by rfl) (by assumption) ?_ ?_; rotate_left; focus (intro w hSw; go_simp; first | done | with_reducible rfl)
   try simp only [Act.put, List.setIfInBounds_toArray, List.set_cons_zero, List.set_cons_succ]
   refine tk (i := 9) (oi := { dst := some 38, op := .load 25 (.tmp 37), type := 25, pos := "steps.go:239", after := #[{ on := 8, ground := .data }], guard := none }) (v := ?_) rfl (by kernel_rfl) (by kernel_rfl) (by kernel_rfl) (fun _ _ _ h => h) (by rfl) (by assumption) ?_ ?_; rotate_left; focus (intro w hSw; go_simp; first | done | with_reducible rfl)
   try simp only [Act.put, List.setIfInBounds_toArray, List.set_cons_zero, List.set_cons_succ]
   refine wpAnyH_ready (rs := [10, 14]) (by kernel_rfl) (by simp) ?_
   refine AllReadyH.cons (o := { dst := some 39, op := .call { callee := .value (.func 82), args := #[.tmp 33, .tmp 38], argTypes := #[79, 25] }, type := 122, pos := "steps.go:239", after := #[{ on := 4, ground := .data }, { on := 9, ground := .data }], guard := none }) rfl (fun K hK => ?_) (AllReadyH.cons (o := { dst := some 9, op := .alloc 116, type := 0, pos := "steps.go:239", after := #[], guard := none }) rfl (fun K hK => ?_) (AllReadyH.nil))
   ·go_simp
    go_wp2_with (go_at_call 82; refine (CX.out _ (grow_trans hbl.out (grow_drew (Below.refl _ _)))).mono ?_; rintro e w3 ⟨va, vc, ma, mc, rfl, hva, hb3⟩)
    have B3 : Hid (Below wr.heap.size wr w3) := grow_trans (grow_drew (Below.refl _ _)) hb3
    clear hHeld
    refine hK.out _ _ (KS.out _ B3.out) (fun hHeld => ?_)
    clear hK K
    refine tk (i := 11) (oi := { dst := some 28, op := .move (.tmp 39), type := 122, pos := "steps.go:239", after := #[{ on := 10, ground := .data }], guard := none }) (v := ?_) rfl (by kernel_rfl) (by kernel_rfl) (by kernel_rfl) (fun _ _ _ h => h) (by rfl) (by assumption) ?_ ?_; rotate_left; focus (intro w hSw; go_simp; first | done | with_reducible rfl)
    try simp only [Act.put, List.setIfInBounds_toArray, List.set_cons_zero, List.set_cons_succ]
    refine tk (i := 12) (oi := { dst := some 40, op := .extract (.tmp 28) 0, type := 116, pos := "steps.go:239", after := #[{ on := 11, ground := .data }], guard := none }) (v := ?_) rfl (by kernel_rfl) (by kernel_rfl) (by kernel_rfl) (fun _ _ _ h => h) (by rfl) (by assumption) ?_ ?_; rotate_left; focus (intro w hSw; go_simp; first | done | with_reducible rfl)
    try simp only [Act.put, List.setIfInBounds_toArray, List.set_cons_zero, List.set_cons_succ]
    refine tk (i := 13) (oi := { dst := some 41, op := .extract (.tmp 28) 1, type := 25, pos := "steps.go:239", after := #[{ on := 11, ground := .data }, { on := 15, ground := .gcOnly Departure.lateStores }], guard := none }) (v := ?_) rfl (by kernel_rfl) (by kernel_rfl) (by kernel_rfl) (fun _ _ _ h => h) (by rfl) (by assumption) ?_ ?_; rotate_left; focus (intro w hSw; go_simp; first | done | with_reducible rfl)
    try simp only [Act.put, List.setIfInBounds_toArray, List.set_cons_zero, List.set_cons_succ]
    refine wpAnyH_ready (rs := [14]) (by kernel_rfl) (by simp) ?_
    refine AllReadyH.cons (o := { dst := some 9, op := .alloc 116, type := 0, pos := "steps.go:239", after := #[], guard := none }) rfl (fun K hK => ?_) (AllReadyH.nil)
    go_simp
    skip
    clear hHeld
    refine hK.out _ _ (KS.out _ (grow_alloc B3.out _)) (fun hHeld => ?_)
    clear hK K
    refine wpAnyH_ready (rs := [15]) (by kernel_rfl) (by simp) ?_
    refine AllReadyH.cons (o := { dst := none, op := .store 116 (.tmp 9) (.tmp 40), type := 0, pos := "steps.go:239", after := #[{ on := 14, ground := .data }, { on := 12, ground := .data }, { on := 10, ground := .chain }, { on := 0, ground := .phase }, { on := 1, ground := .phase }, { on := 2, ground := .phase }, { on := 3, ground := .phase }, { on := 4, ground := .phase }, { on := 5, ground := .phase }, { on := 6, ground := .phase }, { on := 7, ground := .phase }, { on := 8, ground := .phase }, { on := 9, ground := .phase }, { on := 10, ground := .phase }, { on := 11, ground := .phase }, { on := 12, ground := .phase }, { on := 13, ground := .textOnly Departure.lateStores }, { on := 14, ground := .phase }], guard := none }) rfl (fun K hK => ?_) (AllReadyH.nil)
    go_simp
    have FB : Hid (Below wr.heap.size wr (w3.alloc (.cells #[.bool D, .slice va Z.length vc] 116))) := grow_alloc B3.out _
    clear hHeld
    refine hK.out _ _ (KS.out _ FB.out) (fun hHeld => ?_)
    clear hK K
    refine tk (i := 16) (oi := { dst := some 10, op := .assign (.tmp 41), type := 25, pos := "steps.go:239", after := #[{ on := 13, ground := .data }, { on := 15, ground := .chain }, { on := 0, ground := .phase }, { on := 1, ground := .phase }, { on := 2, ground := .phase }, { on := 3, ground := .phase }, { on := 4, ground := .phase }, { on := 5, ground := .phase }, { on := 6, ground := .phase }, { on := 7, ground := .phase }, { on := 8, ground := .phase }, { on := 9, ground := .phase }, { on := 10, ground := .phase }, { on := 11, ground := .phase }, { on := 12, ground := .phase }, { on := 13, ground := .phase }, { on := 14, ground := .phase }, { on := 15, ground := .phase }], guard := none }) (v := ?_) rfl (by kernel_rfl) (by kernel_rfl) (by kernel_rfl) (fun _ _ _ h => h) (by rfl) (by assumption) ?_ ?_; rotate_left; focus (intro w hSw; go_simp; first | done | with_reducible rfl)
    try simp only [Act.put, List.setIfInBounds_toArray, List.set_cons_zero, List.set_cons_succ]
    refine wpAnyH_done (by kernel_rfl) ?_ _
    have g0 : (w3.alloc (.cells #[.bool D, .slice va Z.length vc] 116)).cell? ⟨w3.heap.size, 0, none⟩ = some (.bool D) := at_new _ _ 116 _ 0 _ rfl rfl
    have g1 : (w3.alloc (.cells #[.bool D, .slice va Z.length vc] 116)).cell? ⟨w3.heap.size, 1, none⟩ = some (.slice va Z.length vc) := at_new _ _ 116 _ 1 _ rfl rfl
    have FU : Hid (IsAt wr.heap.size (w3.alloc (.cells #[.bool D, .slice va Z.length vc] 116)).heap.size (w3.alloc (.cells #[.bool D, .slice va Z.length vc] 116)) va Z) := (hva.below (grow_alloc (Below.refl _ _) _)).widen (by simp) (by simp)
    clear hHeld hva hb3 B3 KS CX
    generalize (w3.alloc (.cells #[.bool D, .slice va Z.length vc] 116)) = U at *
    have hresU : Hid (ResRow W.heap.size U u7 rl) := hres.out.below FB.out
    have hblU : Hid (Below W.heap.size W U) := grow_trans hbl.out FB.out
    have hVw : Hid (W.heap.size ≤ wr.heap.size) := hbl.out.size
    clear FB
    have hfar : Hid (∀ {zs : List Int} {q : Option Addr}, IsAt wr.heap.size U.heap.size U q zs → zs ≠ [] → ∀ ad, q = some ad → u7.ownBlock ≠ some ad.block) := fun h hne ad had e => by
     obtain ⟨b, off, ha', h1, _, _⟩ := h 0 (List.length_pos_iff.2 hne)
     rw [had] at ha'
     injection ha' with ha'
     subst ha'
     have := (hown.out _ e).2
     simp at this
     omega
    go_wp2_with (first
     | (at_builtin; refine wpList_append_rs rfl _ _ rfl W.heap.size u7 rl ⟨va, vc, D, Z⟩ rfl (hresU.out.below (grow_alloc (Below.refl _ _) _)) ⟨U.heap.size, 0, none⟩ 1 rfl (news_rs U D _ _ rfl) (((FU.out.below (grow_alloc (Below.refl _ _) _))).widen hVw.out (by simp)) (hfar.out FU.out) hrl (Nat.le_trans hblU.out.size (by simp)) ?_; intro v' w5 hres5 hg5)
     | go_in)
    have n2 : Hid (ResRow W.heap.size w5 v' (rl ++ [⟨va, vc, D, Z⟩])) := hres5
    have n3 : Hid ((rl ++ [(⟨va, vc, D, Z⟩ : RsA)]).map RsA.told = resL l S (k + 1)) := by show _ = _; rw [HT.out, List.map_append, htold.out]; rfl
    have n4 : Hid (Below W.heap.size W w5) := (grow_alloc hblU.out _).grown hg5 (Nat.le_trans hblU.out.size (by simp)) (fun j e => (hown.out j e).1)
    clear hres5 hg5 hresU hblU hfar g0 g1 FU
    go_wp2
    go_roundw
    case rel => exact ⟨k + 1, rl ++ [⟨va, vc, D, Z⟩], by omega, by go_num, n2, n3, n4⟩
    case measure => simp [intOf]; omega
   ·go_simp
    skip
    clear hHeld
    refine hK.out _ _ (KS.out _ (grow_drew (grow_alloc (Below.refl _ _) _))) (fun hHeld => ?_)
    clear hK K
    refine wpAnyH_ready (rs := [10]) (by kernel_rfl) (by simp) ?_
    refine AllReadyH.cons (o := { dst := some 39, op := .call { callee := .value (.func 82), args := #[.tmp 33, .tmp 38], argTypes := #[79, 25] }, type := 122, pos := "steps.go:239", after := #[{ on := 4, ground := .data }, { on := 9, ground := .data }], guard := none }) rfl (fun K hK => ?_) (AllReadyH.nil)
    go_simp
    go_wp2_with (go_at_call 82; refine (CX.out _ (grow_trans hbl.out (grow_drew (grow_alloc (Below.refl _ _) _)))).mono ?_; rintro e w3 ⟨va, vc, ma, mc, rfl, hva, hb3⟩)
    have B3 : Hid (Below wr.heap.size wr w3) := grow_trans (grow_drew (grow_alloc (Below.refl _ _) _)) hb3
    have f0 : w3.cell? ⟨wr.heap.size, 0, none⟩ = some (.bool false) := ext_cell hb3 (at_new wr _ 116 _ 0 _ rfl rfl)
    have f1 : w3.cell? ⟨wr.heap.size, 1, none⟩ = some (.slice none 0 0) := ext_cell hb3 (at_new wr _ 116 _ 1 _ rfl rfl)
    have ff : ∀ j, w3.frozen? ⟨wr.heap.size, j, none⟩ = false := fun j => (hb3.frozen (p := ⟨wr.heap.size, j, none⟩) (by simp)).trans (frozen_new wr _ 116 _ j rfl)
    have FB : Hid (Below wr.heap.size wr ((w3.setCell ⟨wr.heap.size, 0, none⟩ (.bool D)).setCell ⟨wr.heap.size, 1, none⟩ (.slice va Z.length vc))) := grow_set (grow_set B3.out (Nat.le_refl _) _) (Nat.le_refl _) _
    clear hHeld
    refine hK.out _ _ (KS.out _ B3.out) (fun hHeld => ?_)
    clear hK K
    refine tk (i := 11) (oi := { dst := some 28, op := .move (.tmp 39), type := 122, pos := "steps.go:239", after := #[{ on := 10, ground := .data }], guard := none }) (v := ?_) rfl (by kernel_rfl) (by kernel_rfl) (by kernel_rfl) (fun _ _ _ h => h) (by rfl) (by assumption) ?_ ?_; rotate_left; focus (intro w hSw; go_simp; first | done | with_reducible rfl)
    try simp only [Act.put, List.setIfInBounds_toArray, List.set_cons_zero, List.set_cons_succ]
    refine tk (i := 12) (oi := { dst := some 40, op := .extract (.tmp 28) 0, type := 116, pos := "steps.go:239", after := #[{ on := 11, ground := .data }], guard := none }) (v := ?_) rfl (by kernel_rfl) (by kernel_rfl) (by kernel_rfl) (fun _ _ _ h => h) (by rfl) (by assumption) ?_ ?_; rotate_left; focus (intro w hSw; go_simp; first | done | with_reducible rfl)
    try simp only [Act.put, List.setIfInBounds_toArray, List.set_cons_zero, List.set_cons_succ]
    refine tk (i := 13) (oi := { dst := some 41, op := .extract (.tmp 28) 1, type := 25, pos := "steps.go:239", after := #[{ on := 11, ground := .data }, { on := 15, ground := .gcOnly Departure.lateStores }], guard := none }) (v := ?_) rfl (by kernel_rfl) (by kernel_rfl) (by kernel_rfl) (fun _ _ _ h => h) (by rfl) (by assumption) ?_ ?_; rotate_left; focus (intro w hSw; go_simp; first | done | with_reducible rfl)
    try simp only [Act.put, List.setIfInBounds_toArray, List.set_cons_zero, List.set_cons_succ]
    refine wpAnyH_ready (rs := [15]) (by kernel_rfl) (by simp) ?_
    refine AllReadyH.cons (o := { dst := none, op := .store 116 (.tmp 9) (.tmp 40), type := 0, pos := "steps.go:239", after := #[{ on := 14, ground := .data }, { on := 12, ground := .data }, { on := 10, ground := .chain }, { on := 0, ground := .phase }, { on := 1, ground := .phase }, { on := 2, ground := .phase }, { on := 3, ground := .phase }, { on := 4, ground := .phase }, { on := 5, ground := .phase }, { on := 6, ground := .phase }, { on := 7, ground := .phase }, { on := 8, ground := .phase }, { on := 9, ground := .phase }, { on := 10, ground := .phase }, { on := 11, ground := .phase }, { on := 12, ground := .phase }, { on := 13, ground := .textOnly Departure.lateStores }, { on := 14, ground := .phase }], guard := none }) rfl (fun K hK => ?_) (AllReadyH.nil)
    go_simp
    skip
    clear hHeld
    refine hK.out _ _ (KS.out _ FB.out) (fun hHeld => ?_)
    clear hK K
    refine tk (i := 16) (oi := { dst := some 10, op := .assign (.tmp 41), type := 25, pos := "steps.go:239", after := #[{ on := 13, ground := .data }, { on := 15, ground := .chain }, { on := 0, ground := .phase }, { on := 1, ground := .phase }, { on := 2, ground := .phase }, { on := 3, ground := .phase }, { on := 4, ground := .phase }, { on := 5, ground := .phase }, { on := 6, ground := .phase }, { on := 7, ground := .phase }, { on := 8, ground := .phase }, { on := 9, ground := .phase }, { on := 10, ground := .phase }, { on := 11, ground := .phase }, { on := 12, ground := .phase }, { on := 13, ground := .phase }, { on := 14, ground := .phase }, { on := 15, ground := .phase }], guard := none }) (v := ?_) rfl (by kernel_rfl) (by kernel_rfl) (by kernel_rfl) (fun _ _ _ h => h) (by rfl) (by assumption) ?_ ?_; rotate_left; focus (intro w hSw; go_simp; first | done | with_reducible rfl)
    try simp only [Act.put, List.setIfInBounds_toArray, List.set_cons_zero, List.set_cons_succ]
    refine wpAnyH_done (by kernel_rfl) ?_ _
    have g0 : ((w3.setCell ⟨wr.heap.size, 0, none⟩ (.bool D)).setCell ⟨wr.heap.size, 1, none⟩ (.slice va Z.length vc)).cell? ⟨wr.heap.size, 0, none⟩ = some (.bool D) := set_off (by decide) (set_here f0)
    have g1 : ((w3.setCell ⟨wr.heap.size, 0, none⟩ (.bool D)).setCell ⟨wr.heap.size, 1, none⟩ (.slice va Z.length vc)).cell? ⟨wr.heap.size, 1, none⟩ = some (.slice va Z.length vc) := set_here (set_off (by decide) f1)
    have FU : Hid (IsAt wr.heap.size ((w3.setCell ⟨wr.heap.size, 0, none⟩ (.bool D)).setCell ⟨wr.heap.size, 1, none⟩ (.slice va Z.length vc)).heap.size ((w3.setCell ⟨wr.heap.size, 0, none⟩ (.bool D)).setCell ⟨wr.heap.size, 1, none⟩ (.slice va Z.length vc)) va Z) := ((hva.set ⟨wr.heap.size, 0, none⟩ _ (.inl (by simp))).set ⟨wr.heap.size, 1, none⟩ _ (.inl (by simp))).widen (by simp) (by simp)
    clear hHeld f0 f1 ff hva hb3 B3 KS CX
    generalize ((w3.setCell ⟨wr.heap.size, 0, none⟩ (.bool D)).setCell ⟨wr.heap.size, 1, none⟩ (.slice va Z.length vc)) = U at *
    have hresU : Hid (ResRow W.heap.size U u7 rl) := hres.out.below FB.out
    have hblU : Hid (Below W.heap.size W U) := grow_trans hbl.out FB.out
    have hVw : Hid (W.heap.size ≤ wr.heap.size) := hbl.out.size
    clear FB
    have hfar : Hid (∀ {zs : List Int} {q : Option Addr}, IsAt wr.heap.size U.heap.size U q zs → zs ≠ [] → ∀ ad, q = some ad → u7.ownBlock ≠ some ad.block) := fun h hne ad had e => by
     obtain ⟨b, off, ha', h1, _, _⟩ := h 0 (List.length_pos_iff.2 hne)
     rw [had] at ha'
     injection ha' with ha'
     subst ha'
     have := (hown.out _ e).2
     simp at this
     omega
    go_wp2_with (first
     | (at_builtin; refine wpList_append_rs rfl _ _ rfl W.heap.size u7 rl ⟨va, vc, D, Z⟩ rfl (hresU.out.below (grow_alloc (Below.refl _ _) _)) ⟨U.heap.size, 0, none⟩ 1 rfl (news_rs U D _ _ rfl) (((FU.out.below (grow_alloc (Below.refl _ _) _))).widen hVw.out (by simp)) (hfar.out FU.out) hrl (Nat.le_trans hblU.out.size (by simp)) ?_; intro v' w5 hres5 hg5)
     | go_in)
    have n2 : Hid (ResRow W.heap.size w5 v' (rl ++ [⟨va, vc, D, Z⟩])) := hres5
    have n3 : Hid ((rl ++ [(⟨va, vc, D, Z⟩ : RsA)]).map RsA.told = resL l S (k + 1)) := by show _ = _; rw [HT.out, List.map_append, htold.out]; rfl
    have n4 : Hid (Below W.heap.size W w5) := (grow_alloc hblU.out _).grown hg5 (Nat.le_trans hblU.out.size (by simp)) (fun j e => (hown.out j e).1)
    clear hres5 hg5 hresU hblU hfar g0 g1 FU
    go_wp2
    go_roundw
    case rel => exact ⟨k + 1, rl ++ [⟨va, vc, D, Z⟩], by omega, by go_num, n2, n3, n4⟩
    case measure => simp [intOf]; omega
  ·have hkk : k = l.length := by omega
   have n3 : Hid (rl.map RsA.told = resL l S l.length) := by
    have h := htold.out
    rw [hkk] at h
    exact h
   have i1 : ¬ (k : Int) < (l.length : Int) := by omega
   obtain ⟨xa, xc, rfl, hX⟩ := hres.out.res
   rw [n3.out] at hX
   rw [n3.out]
   have HXX : Hid (IsRes wr xa (resL l S l.length)) := hX
   have BF : Hid (Below w.heap.size w wr) := grow_trans hU.out hbl.out
   clear htold hX hres hbl hlt n3
   go_wp2
   go_ret2
   exact ⟨xa, ⟨xc, rfl⟩, HXX.out, BF.out⟩
theorem docResults_any (m : Int) (w : World) (hl : IsTxs w la l) (hs : StaQ S q w) :
  Calls Tryz.prog 34 #[.agg #[.int .i64 m, .slice la l.length lc], .agg #[.slice q.sa q.sn q.sc, .slice q.ra q.rn q.rc, .slice q.wa q.wn q.tc, .slice q.va q.vn q.vc]] w fun e w' => ∃ xa xc, e = .returned (.tuple #[.slice xa (rsL m l S).length xc, .int .i64 (rsE m l S)]) ∧ IsRes w' xa (rsL m l S) ∧ Below w.heap.size w w' := by
 by_cases hst : stE m l S = 0
 ·obtain ⟨sh, rfl, _⟩ := stE_zero hst
  have eo : ovE (sh : Int) l S = overB sh l S := by
   have h : ovE (sh : Int) l S = overB (sh : Int).toNat l S := if_pos hst
   rw [h, Int.toNat_natCast]
  cases ho : overB sh l S with
  | true =>
   have e1 : rsE (sh : Int) l S = 0 := by unfold rsE; rw [if_pos hst, eo, ho]; rfl
   have e2 : rsL (sh : Int) l S = resL l S l.length := if_pos e1
   rw [e1, e2]
   exact docResults_ok la lc l q S sh w hl hs hst ho
  | false =>
   have e1 : rsE (sh : Int) l S = 8 := by unfold rsE; rw [if_pos hst, eo, ho]; rfl
   have e2 : rsL (sh : Int) l S = [] := if_neg (by rw [e1]; decide)
   rw [e1, e2]
   refine (docResults_left la lc l q S sh w hl hs hst ho).mono ?_
   rintro e w' ⟨rfl, hb⟩
   exact ⟨none, 0, rfl, fun _ hi => absurd hi (Nat.not_lt_zero _), hb⟩
 ·have e1 : rsE m l S = stE m l S := if_neg hst
  have e2 : rsL m l S = [] := if_neg (by rw [e1]; exact hst)
  rw [e1, e2]
  refine (docResults_st la lc l q S m w hl hs hst).mono ?_
  rintro e w' ⟨rfl, hb⟩
  exact ⟨none, 0, rfl, fun _ hi => absurd hi (Nat.not_lt_zero _), hb⟩
theorem rsL_few (m : Int) : (rsL m l S).length ≤ 100 ∧ ∀ r ∈ rsL m l S, r.2.length ≤ 100 := by
 by_cases h : rsE m l S = 0
 ·have e : rsL m l S = resL l S l.length := if_pos h
  have hst : stE m l S = 0 := by
   by_cases c : stE m l S = 0
   ·exact c
   ·have : rsE m l S = stE m l S := if_neg c
    omega
  obtain ⟨sh, _, _, _, hc, _⟩ := stE_zero hst
  have := chkL_len hc
  rw [e]
  exact ⟨by rw [resL_len]; omega, resL_few hst⟩
 ·have e : rsL m l S = [] := if_neg h
  rw [e]
  exact ⟨by simp, fun r hr => by cases hr⟩
set_option maxHeartbeats 4000000 in
theorem playResults_q (m : Int) (w : World) (hl : IsTxs w la l) (hs : StaQ S q w) :
  Calls Tryz.prog 9 #[.agg #[.int .i64 m, .slice la l.length lc], .agg #[.slice q.sa q.sn q.sc, .slice q.ra q.rn q.rc, .slice q.wa q.wn q.tc, .slice q.va q.vn q.vc]] w fun e w' => e = .returned (.bool true) ∧ Below w.heap.size w w' := by
 obtain ⟨W, hWe⟩ : ∃ W : World, W = ((w.alloc (.cells #[.int .i64 m, .slice la l.length lc] 24)).alloc (.cells #[.slice q.sa q.sn q.sc, .slice q.ra q.rn q.rc, .slice q.wa q.wn q.tc, .slice q.va q.vn q.vc] 29)) := ⟨_, rfl⟩
 have hU : Hid (Below w.heap.size w W) := by subst hWe; exact (grow_alloc (grow_alloc (Below.refl _ _) _) _)
 have p0 : W.cell? ⟨w.heap.size, 0, none⟩ = some (.int .i64 m) := by subst hWe; exact ext_cell (grow_alloc (Below.refl _ _) _) (at_new _ _ 24 _ 0 _ rfl rfl)
 have p1 : W.cell? ⟨w.heap.size, 1, none⟩ = some (.slice la l.length lc) := by subst hWe; exact ext_cell (grow_alloc (Below.refl _ _) _) (at_new _ _ 24 _ 1 _ rfl rfl)
 have z0 : W.cell? ⟨w.heap.size + 1, 0, none⟩ = some (.slice q.sa q.sn q.sc) := by subst hWe; exact at_new _ _ 29 _ 0 _ (by simp) rfl
 have z1 : W.cell? ⟨w.heap.size + 1, 1, none⟩ = some (.slice q.ra q.rn q.rc) := by subst hWe; exact at_new _ _ 29 _ 1 _ (by simp) rfl
 have z2 : W.cell? ⟨w.heap.size + 1, 2, none⟩ = some (.slice q.wa q.wn q.tc) := by subst hWe; exact at_new _ _ 29 _ 2 _ (by simp) rfl
 have z3 : W.cell? ⟨w.heap.size + 1, 3, none⟩ = some (.slice q.va q.vn q.vc) := by subst hWe; exact at_new _ _ 29 _ 3 _ (by simp) rfl
 have KEEP : Hid (∀ w', Below W.heap.size W w' → w'.cell? ⟨w.heap.size, 0, none⟩ = some (.int .i64 m) ∧ w'.cell? ⟨w.heap.size, 1, none⟩ = some (.slice la l.length lc) ∧ w'.cell? ⟨w.heap.size + 1, 0, none⟩ = some (.slice q.sa q.sn q.sc) ∧ w'.cell? ⟨w.heap.size + 1, 1, none⟩ = some (.slice q.ra q.rn q.rc) ∧ w'.cell? ⟨w.heap.size + 1, 2, none⟩ = some (.slice q.wa q.wn q.tc) ∧ w'.cell? ⟨w.heap.size + 1, 3, none⟩ = some (.slice q.va q.vn q.vc)) := fun w' hb => ⟨ext_cell hb p0, ext_cell hb p1, ext_cell hb z0, ext_cell hb z1, ext_cell hb z2, ext_cell hb z3⟩
 have HL : Hid (IsTxs W la l) := hl.below hU.out
 have HS : Hid (StaQ S q W) := hs.below hU.out
 have HWe : Hid (W = _) := hWe
 clear p0 p1 z0 z1 z2 z3 hl hs hWe
 have C1 : Hid (Calls Tryz.prog 33 #[.agg #[.int .i64 m, .slice la l.length lc], .agg #[.slice q.sa q.sn q.sc, .slice q.ra q.rn q.rc, .slice q.wa q.wn q.tc, .slice q.va q.vn q.vc]] W fun e w' => ∃ xa xc, e = .returned (.tuple #[.slice xa (rsL m l S).length xc, .int .i64 (rsE m l S)]) ∧ IsRes w' xa (rsL m l S) ∧ Below W.heap.size W w') := results_any la lc l q S m W HL.out HS.out
 have C2 : Hid (∀ w', Below W.heap.size W w' → Calls Tryz.prog 34 #[.agg #[.int .i64 m, .slice la l.length lc], .agg #[.slice q.sa q.sn q.sc, .slice q.ra q.rn q.rc, .slice q.wa q.wn q.tc, .slice q.va q.vn q.vc]] w' fun e w'' => ∃ xa xc, e = .returned (.tuple #[.slice xa (rsL m l S).length xc, .int .i64 (rsE m l S)]) ∧ IsRes w'' xa (rsL m l S) ∧ Below w'.heap.size w' w'') := fun w' hb => docResults_any la lc l q S m w' (HL.out.below hb) (HS.out.below hb)
 obtain ⟨f1, f2⟩ := rsL_few l S m
 have F2 : Hid (∀ r ∈ rsL m l S, r.2.length ≤ 100) := f2
 clear f2 HL HS
 generalize rsL m l S = R at *
 generalize rsE m l S = E at *
 go_enter Tryz.func9, Tryz.ntmps9
 go_upto_region 1 with fail
 rw [← HWe.out]
 clear HWe
 obtain ⟨p0, p1, z0, z1, z2, z3⟩ := KEEP.out W (Below.refl _ _)
 go_wp2_with fail
 refine C1.out.mono ?_
 rintro e w1 ⟨xa, xc, rfl, hx, hb1⟩
 clear p0 p1 z0 z1 z2 z3
 obtain ⟨p0, p1, z0, z1, z2, z3⟩ := KEEP.out w1 hb1
 go_wp2_with fail
 refine (C2.out _ hb1).mono ?_
 rintro e w2 ⟨ya, yc, rfl, hy, hb2⟩
 have HX : Hid (IsRes w2 xa R) := hx.below hb2
 have HY : Hid (IsRes w2 ya R) := hy
 have B2 : Hid (Below w.heap.size w w2) := grow_trans hU.out (grow_trans hb1 hb2)
 clear hx hy hb1 hb2 p0 p1 z0 z1 z2 z3 C1 C2
 go_wp2_with fail
 refine (playBegun_any _).mono ?_
 rintro e w3 ⟨rfl, hb3⟩
 go_wp2_with fail
 refine (sameResults_eq R xa ya xc yc _ f1 F2.out (HX.out.below hb3) (HY.out.below hb3)).mono ?_
 rintro e w4 ⟨rfl, hb4⟩
 have B4 : Hid (Below w.heap.size w w4) := grow_trans B2.out (grow_trans hb3 hb4)
 clear hb3 hb4
 go_wp2
 go_ret
 exact ⟨rfl, B4.out⟩
theorem playResults_walk (sa ra wa va : Option Addr) (sc rc tc vc : Nat) (m : Int) (w : World) (hl : IsTxs w la l) (hs : Sta w sa ra wa va S) :
  Calls Tryz.prog 9 #[.agg #[.int .i64 m, .slice la l.length lc], .agg #[.slice sa S.st.length sc, .slice ra S.rd.length rc, .slice wa S.wr.length tc, .slice va S.vs.length vc]] w fun e w' => e = .returned (.bool true) ∧ Below w.heap.size w w' :=
 playResults_q la lc l ⟨sa, ra, wa, va, S.st.length, S.rd.length, S.wr.length, S.vs.length, sc, rc, tc, vc⟩ S m w hl ⟨rfl, rfl, rfl, rfl, hs⟩
end Go.Proofs.YtebjkmknhpgemaaGreat
