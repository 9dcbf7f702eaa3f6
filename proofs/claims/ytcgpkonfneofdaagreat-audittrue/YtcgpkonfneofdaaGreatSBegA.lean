/-
  
  Conditions: those that each theorem states.
-/
import Derived.Test.YtcgpkonfneofdaaGreatSOwnE
import Derived.Test.YtcgpkonfneofdaaGreatSHallO
set_option maxRecDepth 100000
namespace Go.Proofs.YtcgpkonfneofdaaGreat
open Go.RowKit
variable (la : Option Addr) (lc : Nat) (l : List TxA) (sa ra wa va : Option Addr) (sc rc tc vc : Nat) (S : SA)
theorem stepE_zero {sh : Nat} {l : List TxA} {S : SA} {kd n k : Int} (h : stepE sh l S kd n k = 0) : ∃ K N k' : Nat, kd = K ∧ n = N ∧ k = k' ∧ (K = 1 ∨ K = 2) ∧ N < l.length ∧ k' < sh ∧ hasB sh l K N k' = true ∧ doneB S K N k' = false ∧ freeB sh l S K N k' = true := by
 unfold stepE at h
 by_cases h1 : kd = 1 ∨ kd = 2
 ·rw [if_pos h1] at h
  by_cases h2 : n < 0 ∨ (l.length : Int) ≤ n ∨ k < 0 ∨ (sh : Int) ≤ k
  ·rw [if_pos h2] at h; cases h
  ·rw [if_neg h2] at h
   by_cases h3 : hasB sh l kd.toNat n.toNat k.toNat = true
   ·rw [if_pos h3] at h
    by_cases h4 : doneB S kd.toNat n.toNat k.toNat = true
    ·rw [if_pos h4] at h; cases h
    ·rw [if_neg h4] at h
     by_cases h5 : freeB sh l S kd.toNat n.toNat k.toNat = true
     ·exact ⟨kd.toNat, n.toNat, k.toNat, by omega, by omega, by omega, by omega, by omega, by omega, h3, by simpa using h4, h5⟩
     ·rw [if_neg h5] at h; cases h
   ·rw [if_neg h3] at h; cases h
 ·rw [if_neg h1] at h; cases h
set_option maxHeartbeats 1000000 in
theorem do1_pan (m : Int) (p q r : Nat) (w : World) (p0 : w.cell? ⟨p, 0, none⟩ = some (.int .i64 m)) (p1 : w.cell? ⟨p, 1, none⟩ = some (.slice la l.length lc)) (q0 : w.cell? ⟨q, 0, none⟩ = some (.slice sa S.st.length sc)) (q1 : w.cell? ⟨q, 1, none⟩ = some (.slice ra S.rd.length rc)) (q2 : w.cell? ⟨q, 2, none⟩ = some (.slice wa S.wr.length tc)) (q3 : w.cell? ⟨q, 3, none⟩ = some (.slice va S.vs.length vc)) (hl : IsTxs w la l) (hs : Sta w sa ra wa va S) (hE : ¬ stE m l S = 0) :
  Calls Tryz.prog 88 #[.pointer (some ⟨p, 0, none⟩), .pointer (some ⟨q, 0, none⟩), .pointer (some ⟨r, 0, none⟩)] w fun e w' => e = .panicked [{ v := .iface 30 (.int .i64 (stE m l S)), recovered := false }] ∧ Below w.heap.size w w' := by
 obtain ⟨W, hWe⟩ : ∃ W : World, W = (w.alloc (.cells #[.slice none 0 0, .slice none 0 0, .slice none 0 0, .slice none 0 0] 29)) := ⟨_, rfl⟩
 have hg0 : Below w.heap.size w W := by subst hWe; exact grow_alloc (Below.refl _ _) _
 have p0' := ext_cell hg0 p0
 have p1' := ext_cell hg0 p1
 have q0' := ext_cell hg0 q0
 have q1' := ext_cell hg0 q1
 have q2' := ext_cell hg0 q2
 have q3' := ext_cell hg0 q3
 have HG : Hid (Below w.heap.size w W) := hg0
 have CH : Hid (Calls Tryz.prog 43 #[.agg #[.int .i64 m, .slice la l.length lc], .agg #[.slice sa S.st.length sc, .slice ra S.rd.length rc, .slice wa S.wr.length tc, .slice va S.vs.length vc]] W fun e w' => e = .panicked [{ v := .iface 30 (.int .i64 (stE m l S)), recovered := false }] ∧ Below W.heap.size W w') := hall_pan la lc l sa ra wa va sc rc tc vc S m _ (hl.below hg0) (hs.below hg0) hE
 clear hl hs hE hg0 p0 p1 q0 q1 q2 q3
 have HWe : Hid (W = _) := hWe
 clear hWe
 go_enter Tryz.func88, Tryz.ntmps88
 go_upto_region 1 with fail
 rw [← HWe.out]
 clear HWe
 go_wp2_with fail
 refine CH.out.mono ?_
 rintro e w1 ⟨rfl, hb⟩
 exact ⟨rfl, rfl, grow_trans HG.out hb⟩
set_option maxHeartbeats 2000000 in
theorem do1_step (sh : Nat) (kd n k : Int) (p q r : Nat) (w : World) (p0 : w.cell? ⟨p, 0, none⟩ = some (.int .i64 (sh : Int))) (p1 : w.cell? ⟨p, 1, none⟩ = some (.slice la l.length lc)) (q0 : w.cell? ⟨q, 0, none⟩ = some (.slice sa S.st.length sc)) (q1 : w.cell? ⟨q, 1, none⟩ = some (.slice ra S.rd.length rc)) (q2 : w.cell? ⟨q, 2, none⟩ = some (.slice wa S.wr.length tc)) (q3 : w.cell? ⟨q, 3, none⟩ = some (.slice va S.vs.length vc)) (r0 : w.cell? ⟨r, 0, none⟩ = some (.int .i64 kd)) (r1 : w.cell? ⟨r, 1, none⟩ = some (.int .i64 n)) (r2 : w.cell? ⟨r, 2, none⟩ = some (.int .i64 k)) (hl : IsTxs w la l) (hs : Sta w sa ra wa va S) (hE : stE sh l S = 0) (hT : ¬ stepE sh l S kd n k = 0) :
  Calls Tryz.prog 88 #[.pointer (some ⟨p, 0, none⟩), .pointer (some ⟨q, 0, none⟩), .pointer (some ⟨r, 0, none⟩)] w fun e w' => e = .panicked [{ v := .iface 30 (.int .i64 (stepE sh l S kd n k)), recovered := false }] ∧ Below w.heap.size w w' := by
 obtain ⟨W, hWe⟩ : ∃ W : World, W = (w.alloc (.cells #[.slice none 0 0, .slice none 0 0, .slice none 0 0, .slice none 0 0] 29)) := ⟨_, rfl⟩
 have hg0 : Below w.heap.size w W := by subst hWe; exact grow_alloc (Below.refl _ _) _
 have p0' := ext_cell hg0 p0
 have p1' := ext_cell hg0 p1
 have q0' := ext_cell hg0 q0
 have q1' := ext_cell hg0 q1
 have q2' := ext_cell hg0 q2
 have q3' := ext_cell hg0 q3
 have r0' := ext_cell hg0 r0
 have r1' := ext_cell hg0 r1
 have r2' := ext_cell hg0 r2
 have HG : Hid (Below w.heap.size w W) := hg0
 have CH : Hid (Calls Tryz.prog 43 #[.agg #[.int .i64 (sh : Int), .slice la l.length lc], .agg #[.slice sa S.st.length sc, .slice ra S.rd.length rc, .slice wa S.wr.length tc, .slice va S.vs.length vc]] W fun e w' => ∃ h A, e = .returned (.pointer (some ⟨h, 0, none⟩)) ∧ Hall w' h sh l S A ∧ W.heap.size ≤ h ∧ h < w'.heap.size ∧ (∀ j, w'.frozen? ⟨h, j, none⟩ = false) ∧ W.heap.size ≤ A.p ∧ A.p < h ∧ A.la = la ∧ Below W.heap.size W w') := hall_ok la lc l sa ra wa va sc rc tc vc S sh _ (hl.below hg0) (hs.below hg0) hE
 have CT : Hid (∀ w1 h A, Hall w1 h sh l S A → Calls Tryz.prog 89 #[.pointer (some ⟨h, 0, none⟩), .agg #[.int .i64 kd, .int .i64 n, .int .i64 k]] w1 fun e w' => e = .returned (.int .i64 (stepE sh l S kd n k)) ∧ Below w1.heap.size w1 w') := fun w1 h A H => stepError_any H kd n k
 have HT : Hid (¬ stepE sh l S kd n k = 0) := hT
 clear hl hs hE hg0 p0 p1 q0 q1 q2 q3 r0 r1 r2 hT
 generalize stepE sh l S kd n k = E at *
 have HWe : Hid (W = _) := hWe
 clear hWe
 go_enter Tryz.func88, Tryz.ntmps88
 go_upto_region 1 with fail
 rw [← HWe.out]
 clear HWe
 go_wp2_with fail
 refine CH.out.mono ?_
 rintro e w1 ⟨h, A, rfl, hH, _, _, _, _, _, _, hb⟩
 have B1 : Hid (Below w.heap.size w w1) := grow_trans HG.out hb
 have HH : Hid (Hall w1 h sh l S A) := hH
 have s0 := ext_cell hb r0'
 have s1 := ext_cell hb r1'
 have s2 := ext_cell hb r2'
 clear hb hH CH p0' p1' q0' q1' q2' q3' r0' r1' r2' HG
 go_wp2_with fail
 refine (CT.out _ _ _ HH.out).mono ?_
 rintro e w2 ⟨rfl, hb⟩
 have B2 : Hid (Below w.heap.size w w2) := grow_trans B1.out hb
 clear hb B1 HH CT s0 s1 s2
 go_wp2_with fail
 have hz : firstNZ [E] = E := by
  show (if E = 0 then _ else E) = E
  rw [if_neg HT.out]
 have hlv := leave_nz [E] w2.heap.size 1 (w2.alloc (.cells #[.int .i64 E] 30)) (by simp) (by rw [hz]; exact HT.out) (errs1 w2 _ E rfl)
 rw [hz] at hlv
 refine hlv.mono ?_
 rintro e w3 ⟨rfl, rfl⟩
 exact ⟨rfl, rfl, grow_alloc B2.out _⟩
set_option maxHeartbeats 4000000 in
theorem do1_ok (sh : Nat) (K n k : Nat) (p q r : Nat) (w : World) (p0 : w.cell? ⟨p, 0, none⟩ = some (.int .i64 (sh : Int))) (p1 : w.cell? ⟨p, 1, none⟩ = some (.slice la l.length lc)) (q0 : w.cell? ⟨q, 0, none⟩ = some (.slice sa S.st.length sc)) (q1 : w.cell? ⟨q, 1, none⟩ = some (.slice ra S.rd.length rc)) (q2 : w.cell? ⟨q, 2, none⟩ = some (.slice wa S.wr.length tc)) (q3 : w.cell? ⟨q, 3, none⟩ = some (.slice va S.vs.length vc)) (r0 : w.cell? ⟨r, 0, none⟩ = some (.int .i64 (K : Int))) (r1 : w.cell? ⟨r, 1, none⟩ = some (.int .i64 (n : Int))) (r2 : w.cell? ⟨r, 2, none⟩ = some (.int .i64 (k : Int))) (hl : IsTxs w la l) (hs : Sta w sa ra wa va S) (hE : stE sh l S = 0) (hT : stepE sh l S (K : Int) (n : Int) (k : Int) = 0) (hK : K = 1 ∨ K = 2) (hn : n < l.length) (hk : k < sh) :
  Calls Tryz.prog 88 #[.pointer (some ⟨p, 0, none⟩), .pointer (some ⟨q, 0, none⟩), .pointer (some ⟨r, 0, none⟩)] w fun e w' => ∃ sa' ra' wa' va' sc' rc' tc' vc' g0 c1 c2 c3 hi gr gw gv Br Bw Bv, e = .returned (.agg #[.slice sa' 8 sc', .slice ra' l.length rc', .slice wa' l.length tc', .slice va' l.length vc']) ∧ OwnSt w.heap.size w' sa' ra' wa' va' sc' l sh (doX sh l S K n k) g0 c1 c2 c3 hi gr gw gv Br Bw Bv ∧ Below w.heap.size w w' := by
 obtain ⟨W, hWe⟩ : ∃ W : World, W = (w.alloc (.cells #[.slice none 0 0, .slice none 0 0, .slice none 0 0, .slice none 0 0] 29)) := ⟨_, rfl⟩
 have hg0 : Below w.heap.size w W := by subst hWe; exact grow_alloc (Below.refl _ _) _
 have p0' := ext_cell hg0 p0
 have p1' := ext_cell hg0 p1
 have q0' := ext_cell hg0 q0
 have q1' := ext_cell hg0 q1
 have q2' := ext_cell hg0 q2
 have q3' := ext_cell hg0 q3
 have r0' := ext_cell hg0 r0
 have r1' := ext_cell hg0 r1
 have r2' := ext_cell hg0 r2
 obtain ⟨sh', es, hs0, hs4, hck, _, hfb, _⟩ := stE_zero hE
 have es' : sh' = sh := by omega
 subst es'
 clear es
 have HF : Form sh' l S := formB_iff.1 hfb
 have hr4 : ∀ i, i < l.length → (gX l i).rs.length ≤ 4 := fun i hi => (many_small _ _ _ (chk_parts (chkL_in hck i hi)).1).1
 have hl8 := chkL_len hck
 have HG : Hid (Below w.heap.size w W) := hg0
 have CH : Hid (Calls Tryz.prog 43 #[.agg #[.int .i64 (sh' : Int), .slice la l.length lc], .agg #[.slice sa S.st.length sc, .slice ra S.rd.length rc, .slice wa S.wr.length tc, .slice va S.vs.length vc]] W fun e w' => ∃ h A, e = .returned (.pointer (some ⟨h, 0, none⟩)) ∧ Hall w' h sh' l S A ∧ W.heap.size ≤ h ∧ h < w'.heap.size ∧ (∀ j, w'.frozen? ⟨h, j, none⟩ = false) ∧ W.heap.size ≤ A.p ∧ A.p < h ∧ A.la = la ∧ Below W.heap.size W w') := hall_ok la lc l sa ra wa va sc rc tc vc S sh' _ (hl.below hg0) (hs.below hg0) hE
 have CT : Hid (∀ w1 h A, Hall w1 h sh' l S A → Calls Tryz.prog 89 #[.pointer (some ⟨h, 0, none⟩), .agg #[.int .i64 (K : Int), .int .i64 (n : Int), .int .i64 (k : Int)]] w1 fun e w' => e = .returned (.int .i64 0) ∧ Below w1.heap.size w1 w') := fun w1 h A H => by
  have h := stepError_any H (K : Int) (n : Int) (k : Int)
  rw [hT] at h
  exact h
 have CP : Hid (∀ w1, Below W.heap.size W w1 → Calls Tryz.prog 90 #[.agg #[.slice sa S.st.length sc, .slice ra S.rd.length rc, .slice wa S.wr.length tc, .slice va S.vs.length vc]] w1 fun e w' => ∃ sa' ra' wa' va' sc' rc' tc' vc' g0 c1 c2 c3 gr gw gv Br Bw Bv, e = .returned (.agg #[.slice sa' 8 sc', .slice ra' l.length rc', .slice wa' l.length tc', .slice va' l.length vc']) ∧ OwnSt w1.heap.size w' sa' ra' wa' va' sc' l sh' S g0 c1 c2 c3 w'.heap.size gr gw gv Br Bw Bv ∧ Below w1.heap.size w1 w') := fun w1 hb => by
  have h := copyOf_own sa ra wa va sc rc tc vc l sh' S w1 hs0 hs4 hl8 hr4 HF ((hs.below hg0).below hb)
  rw [HF.st, HF.rd, HF.wr, HF.vs]
  exact h
 have HL : Hid (IsTxs w la l) := hl
 have HE : Hid (chkL l = 0) := hck
 have t0 : ∀ j, j < 4 → W.cell? ⟨w.heap.size, j, none⟩ = some (.slice none 0 0) := by
  subst hWe
  exact fun j hj => by
   match j, hj with
   | 0, _ => exact at_new _ _ 29 _ 0 _ (by simp) rfl
   | 1, _ => exact at_new _ _ 29 _ 1 _ (by simp) rfl
   | 2, _ => exact at_new _ _ 29 _ 2 _ (by simp) rfl
   | 3, _ => exact at_new _ _ 29 _ 3 _ (by simp) rfl
 have T0 : Hid (∀ j, j < 4 → W.cell? ⟨w.heap.size, j, none⟩ = some (.slice none 0 0)) := t0
 have TF : Hid (∀ j, W.frozen? ⟨w.heap.size, j, none⟩ = false) := by subst hWe; exact fun j => by simp
 have sz : Hid (W.heap.size = w.heap.size + 1) := by subst hWe; show _ = _; simp
 clear hl hs hE hg0 p0 p1 q0 q1 q2 q3 r0 r1 r2 hT hfb hr4 HF hck t0
 have HWe : Hid (W = _) := hWe
 clear hWe
 go_enter Tryz.func88, Tryz.ntmps88
 go_upto_region 1 with fail
 rw [← HWe.out]
 clear HWe
 go_wp2_with fail
 refine CH.out.mono ?_
 rintro e w1 ⟨h, A, rfl, hH, hh1, hh2, hhf, hp1, hp2, hla, hb⟩
 have B1 : Hid (Below W.heap.size W w1) := hb
 have HH : Hid (Hall w1 h sh' l S A) := hH
 have HHF : Hid (∀ j, w1.frozen? ⟨h, j, none⟩ = false) := hhf
 have HLA : Hid (A.la = la) := hla
 have s0 := ext_cell hb r0'
 have s1 := ext_cell hb r1'
 have s2 := ext_cell hb r2'
 have RR : Hid (∀ w', Below W.heap.size W w' → w'.cell? ⟨q, 0, none⟩ = some (.slice sa S.st.length sc) ∧ w'.cell? ⟨q, 1, none⟩ = some (.slice ra S.rd.length rc) ∧ w'.cell? ⟨q, 2, none⟩ = some (.slice wa S.wr.length tc) ∧ w'.cell? ⟨q, 3, none⟩ = some (.slice va S.vs.length vc) ∧ w'.cell? ⟨r, 0, none⟩ = some (.int .i64 (K : Int)) ∧ w'.cell? ⟨r, 1, none⟩ = some (.int .i64 (n : Int)) ∧ w'.cell? ⟨r, 2, none⟩ = some (.int .i64 (k : Int))) := fun w' hb => ⟨ext_cell hb q0', ext_cell hb q1', ext_cell hb q2', ext_cell hb q3', ext_cell hb r0', ext_cell hb r1', ext_cell hb r2'⟩
 clear hb hH CH p0' p1' q0' q1' q2' q3' r0' r1' r2' hhf hla
 go_wp2_with fail
 refine (CT.out _ _ _ HH.out).mono ?_
 rintro e w2 ⟨rfl, hb2⟩
 clear s0 s1 s2 CT
 go_wp2_with fail
 refine (leave_zero [0] _ 1 _ (by simp) rfl (errs1 _ _ _ (by simp))).mono ?_
 rintro e w3 ⟨rfl, hw3⟩
 have b3 : Below w1.heap.size w1 w3 := by rw [hw3]; exact grow_trans hb2 (grow_alloc (Below.refl _ _) _)
 have B3 : Hid (Below w1.heap.size w1 w3) := b3
 have H3 : Hid (Hall w3 h sh' l S A) := HH.out.below b3
 clear hw3 hb2 b3
 obtain ⟨s0, s1, s2, s3, _⟩ := RR.out w3 (grow_trans B1.out B3.out)
 go_wp2_with fail
 refine (CP.out w3 (grow_trans B1.out B3.out)).mono ?_
 rintro e w4 ⟨sa', ra', wa', va', sc', rc', tc', vc', g0, c1, c2, c3, gr, gw, gv, Br, Bw, Bv, rfl, ho, hb4⟩
 have B4 : Hid (Below w3.heap.size w3 w4) := hb4
 have H4 : Hid (Hall w4 h sh' l S A) := H3.out.below hb4
 have HO : Hid (OwnSt w3.heap.size w4 sa' ra' wa' va' sc' l sh' S g0 c1 c2 c3 w4.heap.size gr gw gv Br Bw Bv) := ho
 have y1 := H4.out.h1
 have y2 := H4.out.h2
 have y3 := H4.out.h3
 have y4 := H4.out.h4
 have hh3 : h < w3.heap.size := Nat.lt_of_lt_of_le hh2 B3.out.size
 have FZ : ∀ j, w4.frozen? ⟨h, j, none⟩ = false := fun j => ((grow_trans B3.out B4.out).frozen (p := ⟨h, j, none⟩) hh2).trans (HHF.out j)
 have f1 := FZ 1
 have f2 := FZ 2
 have f3 := FZ 3
 have f4 := FZ 4
 have D5 : Hid (DoAt w ((((w4.setCell ⟨h, 1, none⟩ (.slice sa' 8 sc')).setCell ⟨h, 2, none⟩ (.slice ra' l.length rc')).setCell ⟨h, 3, none⟩ (.slice wa' l.length tc')).setCell ⟨h, 4, none⟩ (.slice va' l.length vc')) w3.heap.size h A.p la A.lc rc' tc' vc' sa' ra' wa' va' sc' l sh' S g0 c1 c2 c3 w4.heap.size gr gw gv Br Bw Bv ∧ Below W.heap.size W ((((w4.setCell ⟨h, 1, none⟩ (.slice sa' 8 sc')).setCell ⟨h, 2, none⟩ (.slice ra' l.length rc')).setCell ⟨h, 3, none⟩ (.slice wa' l.length tc')).setCell ⟨h, 4, none⟩ (.slice va' l.length vc'))) := by
  have e3 := B3.out.size
  have e1 := B1.out.size
  have ez := sz.out
  have o5 := (((HO.out.set h 1 (.slice sa' 8 sc') hh3).set h 2 (.slice ra' l.length rc') hh3).set h 3 (.slice wa' l.length tc') hh3).set h 4 (.slice va' l.length vc') hh3
  have hpne : A.p ≠ h := by omega
  have bl : Below W.heap.size W ((((w4.setCell ⟨h, 1, none⟩ (.slice sa' 8 sc')).setCell ⟨h, 2, none⟩ (.slice ra' l.length rc')).setCell ⟨h, 3, none⟩ (.slice wa' l.length tc')).setCell ⟨h, 4, none⟩ (.slice va' l.length vc')) := grow_set (grow_set (grow_set (grow_set (grow_trans (grow_trans B1.out B3.out) B4.out) hh1 _) hh1 _) hh1 _) hh1 _
  refine ⟨⟨set_off (by decide) (set_off (by decide) (set_off (by decide) (set_off (by decide) H4.out.h0))), set_off (by decide) (set_off (by decide) (set_off (by decide) (set_here y1))), set_off (by decide) (set_off (by decide) (set_here (set_off (by decide) y2))), set_off (by decide) (set_here (set_off (by decide) (set_off (by decide) y3))), set_here (set_off (by decide) (set_off (by decide) (set_off (by decide) y4))), ?_, ?_, hh3, by omega, HL.out, grow_trans HG.out bl, by omega, o5, hs0, hs4, hl8, HE.out⟩, bl⟩
  ·rw [World.cell?_setCell_far _ _ _ _ (by simpa using hpne.symm), World.cell?_setCell_far _ _ _ _ (by simpa using hpne.symm), World.cell?_setCell_far _ _ _ _ (by simpa using hpne.symm), World.cell?_setCell_far _ _ _ _ (by simpa using hpne.symm)]
   exact H4.out.p0
  ·rw [World.cell?_setCell_far _ _ _ _ (by simpa using hpne.symm), World.cell?_setCell_far _ _ _ _ (by simpa using hpne.symm), World.cell?_setCell_far _ _ _ _ (by simpa using hpne.symm), World.cell?_setCell_far _ _ _ _ (by simpa using hpne.symm)]
   rw [← HLA.out]
   exact H4.out.p1
 clear HO ho hb4 H3 HH HHF FZ CP s0 s1 s2 s3
 have hC : Hid (W.heap.size ≤ w3.heap.size) := by show _ ≤ _; have e3 := B3.out.size; have e1 := B1.out.size; omega
 have hRC : Hid (w.heap.size < w3.heap.size) := by show _ < _; have e3 := B3.out.size; have e1 := B1.out.size; have := sz.out; omega
 clear B1 B3 B4 H4 HL HLA
 go_upto_region 4 with fail
 clear y1 y2 y3 y4 f1 f2 f3 f4
 generalize ((((w4.setCell ⟨h, 1, none⟩ (.slice sa' 8 sc')).setCell ⟨h, 2, none⟩ (.slice ra' l.length rc')).setCell ⟨h, 3, none⟩ (.slice wa' l.length tc')).setCell ⟨h, 4, none⟩ (.slice va' l.length vc')) = W5 at *
 obtain ⟨_, _, _, _, s0, s1, s2⟩ := RR.out W5 D5.out.2
 have FIN : Hid (∀ w6, DoAt w w6 w3.heap.size h A.p la A.lc rc' tc' vc' sa' ra' wa' va' sc' l sh' (doX sh' l S K n k) g0 c1 c2 c3 w4.heap.size gr gw gv Br Bw Bv → Below w3.heap.size W5 w6 →
   w6.cell? ⟨h, 1, none⟩ = some (.slice sa' 8 sc') ∧ w6.cell? ⟨h, 2, none⟩ = some (.slice ra' l.length rc') ∧ w6.cell? ⟨h, 3, none⟩ = some (.slice wa' l.length tc') ∧ w6.cell? ⟨h, 4, none⟩ = some (.slice va' l.length vc') ∧
   w6.cell? ⟨w.heap.size, 0, none⟩ = some (.slice none 0 0) ∧ w6.cell? ⟨w.heap.size, 1, none⟩ = some (.slice none 0 0) ∧ w6.cell? ⟨w.heap.size, 2, none⟩ = some (.slice none 0 0) ∧ w6.cell? ⟨w.heap.size, 3, none⟩ = some (.slice none 0 0) ∧ (∀ j, w6.frozen? ⟨w.heap.size, j, none⟩ = false) ∧
   Hid (OwnSt w.heap.size ((((w6.setCell ⟨w.heap.size, 0, none⟩ (.slice sa' 8 sc')).setCell ⟨w.heap.size, 1, none⟩ (.slice ra' l.length rc')).setCell ⟨w.heap.size, 2, none⟩ (.slice wa' l.length tc')).setCell ⟨w.heap.size, 3, none⟩ (.slice va' l.length vc')) sa' ra' wa' va' sc' l sh' (doX sh' l S K n k) g0 c1 c2 c3 w4.heap.size gr gw gv Br Bw Bv ∧ Below w.heap.size w ((((w6.setCell ⟨w.heap.size, 0, none⟩ (.slice sa' 8 sc')).setCell ⟨w.heap.size, 1, none⟩ (.slice ra' l.length rc')).setCell ⟨w.heap.size, 2, none⟩ (.slice wa' l.length tc')).setCell ⟨w.heap.size, 3, none⟩ (.slice va' l.length vc')))) := fun w6 D6 hb6 => by
  have bw : Below W.heap.size W w6 := D5.out.2.trans (hb6.mono hC.out)
  have fz : ∀ j, w6.frozen? ⟨w.heap.size, j, none⟩ = false := fun j => (bw.frozen (p := ⟨w.heap.size, j, none⟩) (by have := sz.out; show w.heap.size < _; omega)).trans (TF.out j)
  refine ⟨D6.h1, D6.h2, D6.h3, D6.h4, ext_cell bw (T0.out 0 (by decide)), ext_cell bw (T0.out 1 (by decide)), ext_cell bw (T0.out 2 (by decide)), ext_cell bw (T0.out 3 (by decide)), fz, ?_, ?_⟩
  ·exact ((((D6.own.set w.heap.size 0 (.slice sa' 8 sc') hRC.out).set w.heap.size 1 (.slice ra' l.length rc') hRC.out).set w.heap.size 2 (.slice wa' l.length tc') hRC.out).set w.heap.size 3 (.slice va' l.length vc') hRC.out).low (Nat.le_of_lt hRC.out)
  ·exact grow_set (grow_set (grow_set (grow_set (grow_trans HG.out bw) (Nat.le_refl _) _) (Nat.le_refl _) _) (Nat.le_refl _) _) (Nat.le_refl _) _
 clear RR T0 TF
 rcases hK with rfl | rfl
 ·have CR : Hid (Calls Tryz.prog 91 #[.pointer (some ⟨h, 0, none⟩), .int .i64 n, .int .i64 k] W5 fun e w' => e = .returned (.tuple #[]) ∧ DoAt w w' w3.heap.size h A.p la A.lc rc' tc' vc' sa' ra' wa' va' sc' l sh' (doX sh' l S 1 n k) g0 c1 c2 c3 w4.heap.size gr gw gv Br Bw Bv ∧ Below w3.heap.size W5 w') := read_at D5.out.1 hn hk
  clear D5
  go_wp2_with fail
  refine CR.out.mono ?_
  rintro e w6 ⟨rfl, D6, hb6⟩
  obtain ⟨z1, z2, z3, z4, v0, v1, v2, v3, vf, FF⟩ := FIN.out w6 D6 hb6
  clear FIN D6 hb6 CR s0 s1 s2
  go_wp2_with fail
  have x0 : ((((w6.setCell ⟨w.heap.size, 0, none⟩ (.slice sa' 8 sc')).setCell ⟨w.heap.size, 1, none⟩ (.slice ra' l.length rc')).setCell ⟨w.heap.size, 2, none⟩ (.slice wa' l.length tc')).setCell ⟨w.heap.size, 3, none⟩ (.slice va' l.length vc')).cell? ⟨w.heap.size, 0, none⟩ = some (.slice sa' 8 sc') := (set_off (by decide) (set_off (by decide) (set_off (by decide) (set_here v0))))
  have x1 : ((((w6.setCell ⟨w.heap.size, 0, none⟩ (.slice sa' 8 sc')).setCell ⟨w.heap.size, 1, none⟩ (.slice ra' l.length rc')).setCell ⟨w.heap.size, 2, none⟩ (.slice wa' l.length tc')).setCell ⟨w.heap.size, 3, none⟩ (.slice va' l.length vc')).cell? ⟨w.heap.size, 1, none⟩ = some (.slice ra' l.length rc') := (set_off (by decide) (set_off (by decide) (set_here (set_off (by decide) v1))))
  have x2 : ((((w6.setCell ⟨w.heap.size, 0, none⟩ (.slice sa' 8 sc')).setCell ⟨w.heap.size, 1, none⟩ (.slice ra' l.length rc')).setCell ⟨w.heap.size, 2, none⟩ (.slice wa' l.length tc')).setCell ⟨w.heap.size, 3, none⟩ (.slice va' l.length vc')).cell? ⟨w.heap.size, 2, none⟩ = some (.slice wa' l.length tc') := (set_off (by decide) (set_here (set_off (by decide) (set_off (by decide) v2))))
  have x3 : ((((w6.setCell ⟨w.heap.size, 0, none⟩ (.slice sa' 8 sc')).setCell ⟨w.heap.size, 1, none⟩ (.slice ra' l.length rc')).setCell ⟨w.heap.size, 2, none⟩ (.slice wa' l.length tc')).setCell ⟨w.heap.size, 3, none⟩ (.slice va' l.length vc')).cell? ⟨w.heap.size, 3, none⟩ = some (.slice va' l.length vc') := (set_here (set_off (by decide) (set_off (by decide) (set_off (by decide) v3))))
  generalize ((((w6.setCell ⟨w.heap.size, 0, none⟩ (.slice sa' 8 sc')).setCell ⟨w.heap.size, 1, none⟩ (.slice ra' l.length rc')).setCell ⟨w.heap.size, 2, none⟩ (.slice wa' l.length tc')).setCell ⟨w.heap.size, 3, none⟩ (.slice va' l.length vc')) = W7 at *
  refine bodyPost_ret (v := .agg #[.slice sa' 8 sc', .slice ra' l.length rc', .slice wa' l.length tc', .slice va' l.length vc']) (by simp [results, Tryz.results88, go_sem, x0, x1, x2, x3]) rfl ⟨sa', ra', wa', va', sc', rc', tc', vc', g0, c1, c2, c3, w4.heap.size, gr, gw, gv, Br, Bw, Bv, rfl, FF.out.1, FF.out.2⟩
 ·have CR : Hid (Calls Tryz.prog 92 #[.pointer (some ⟨h, 0, none⟩), .int .i64 n, .int .i64 k] W5 fun e w' => e = .returned (.tuple #[]) ∧ DoAt w w' w3.heap.size h A.p la A.lc rc' tc' vc' sa' ra' wa' va' sc' l sh' (doX sh' l S 2 n k) g0 c1 c2 c3 w4.heap.size gr gw gv Br Bw Bv ∧ Below w3.heap.size W5 w') := write_at D5.out.1 hn hk
  clear D5
  go_wp2_with fail
  refine CR.out.mono ?_
  rintro e w6 ⟨rfl, D6, hb6⟩
  obtain ⟨z1, z2, z3, z4, v0, v1, v2, v3, vf, FF⟩ := FIN.out w6 D6 hb6
  clear FIN D6 hb6 CR s0 s1 s2
  go_wp2_with fail
  have x0 : ((((w6.setCell ⟨w.heap.size, 0, none⟩ (.slice sa' 8 sc')).setCell ⟨w.heap.size, 1, none⟩ (.slice ra' l.length rc')).setCell ⟨w.heap.size, 2, none⟩ (.slice wa' l.length tc')).setCell ⟨w.heap.size, 3, none⟩ (.slice va' l.length vc')).cell? ⟨w.heap.size, 0, none⟩ = some (.slice sa' 8 sc') := (set_off (by decide) (set_off (by decide) (set_off (by decide) (set_here v0))))
  have x1 : ((((w6.setCell ⟨w.heap.size, 0, none⟩ (.slice sa' 8 sc')).setCell ⟨w.heap.size, 1, none⟩ (.slice ra' l.length rc')).setCell ⟨w.heap.size, 2, none⟩ (.slice wa' l.length tc')).setCell ⟨w.heap.size, 3, none⟩ (.slice va' l.length vc')).cell? ⟨w.heap.size, 1, none⟩ = some (.slice ra' l.length rc') := (set_off (by decide) (set_off (by decide) (set_here (set_off (by decide) v1))))
  have x2 : ((((w6.setCell ⟨w.heap.size, 0, none⟩ (.slice sa' 8 sc')).setCell ⟨w.heap.size, 1, none⟩ (.slice ra' l.length rc')).setCell ⟨w.heap.size, 2, none⟩ (.slice wa' l.length tc')).setCell ⟨w.heap.size, 3, none⟩ (.slice va' l.length vc')).cell? ⟨w.heap.size, 2, none⟩ = some (.slice wa' l.length tc') := (set_off (by decide) (set_here (set_off (by decide) (set_off (by decide) v2))))
  have x3 : ((((w6.setCell ⟨w.heap.size, 0, none⟩ (.slice sa' 8 sc')).setCell ⟨w.heap.size, 1, none⟩ (.slice ra' l.length rc')).setCell ⟨w.heap.size, 2, none⟩ (.slice wa' l.length tc')).setCell ⟨w.heap.size, 3, none⟩ (.slice va' l.length vc')).cell? ⟨w.heap.size, 3, none⟩ = some (.slice va' l.length vc') := (set_here (set_off (by decide) (set_off (by decide) (set_off (by decide) v3))))
  generalize ((((w6.setCell ⟨w.heap.size, 0, none⟩ (.slice sa' 8 sc')).setCell ⟨w.heap.size, 1, none⟩ (.slice ra' l.length rc')).setCell ⟨w.heap.size, 2, none⟩ (.slice wa' l.length tc')).setCell ⟨w.heap.size, 3, none⟩ (.slice va' l.length vc')) = W7 at *
  refine bodyPost_ret (v := .agg #[.slice sa' 8 sc', .slice ra' l.length rc', .slice wa' l.length tc', .slice va' l.length vc']) (by simp [results, Tryz.results88, go_sem, x0, x1, x2, x3]) rfl ⟨sa', ra', wa', va', sc', rc', tc', vc', g0, c1, c2, c3, w4.heap.size, gr, gw, gv, Br, Bw, Bv, rfl, FF.out.1, FF.out.2⟩
end Go.Proofs.YtcgpkonfneofdaaGreat
namespace Go.Proofs.YtcgpkonfneofdaaGreat
open Go.RowKit
def OwnQ (C : Nat) (l : List TxA) (sh : Nat) (S : SA) (q : Q4) (w : World) : Prop := q.sn = 8 ∧ q.rn = l.length ∧ q.wn = l.length ∧ q.vn = l.length ∧ ∃ g0 c1 c2 c3 hi gr gw gv Br Bw Bv, OwnSt C w q.sa q.ra q.wa q.va q.sc l sh S g0 c1 c2 c3 hi gr gw gv Br Bw Bv
theorem OwnQ.set {C : Nat} {l : List TxA} {sh : Nat} {S : SA} {q : Q4} {w : World} (h : OwnQ C l sh S q w) (b j : Nat) (u : Value) (hb : b < C) : OwnQ C l sh S q (w.setCell ⟨b, j, none⟩ u) := by
 obtain ⟨e1, e2, e3, e4, g0, c1, c2, c3, hi, gr, gw, gv, Br, Bw, Bv, o⟩ := h
 exact ⟨e1, e2, e3, e4, g0, c1, c2, c3, hi, gr, gw, gv, Br, Bw, Bv, o.set b j u hb⟩
theorem OwnQ.sta {C : Nat} {l : List TxA} {sh : Nat} {S : SA} {q : Q4} {w : World} (h : OwnQ C l sh S q w) (h0 : 0 < sh) : q.sn = S.st.length ∧ q.rn = S.rd.length ∧ q.wn = S.wr.length ∧ q.vn = S.vs.length ∧ Sta w q.sa q.ra q.wa q.va S := by
 obtain ⟨e1, e2, e3, e4, g0, c1, c2, c3, hi, gr, gw, gv, Br, Bw, Bv, o⟩ := h
 exact ⟨e1.trans o.f.st.symm, e2.trans o.f.rd.symm, e3.trans o.f.wr.symm, e4.trans o.f.vs.symm, o.sta h0⟩
def StaQ (S : SA) (q : Q4) (w : World) : Prop := q.sn = S.st.length ∧ q.rn = S.rd.length ∧ q.wn = S.wr.length ∧ q.vn = S.vs.length ∧ Sta w q.sa q.ra q.wa q.va S
theorem StaQ.below {S : SA} {q : Q4} {w w' : World} (h : StaQ S q w) (hb : Below w.heap.size w w') : StaQ S q w' := ⟨h.1, h.2.1, h.2.2.1, h.2.2.2.1, h.2.2.2.2.below hb⟩
def StaF (lo : Nat) (S : SA) (q : Q4) (w : World) : Prop := ∀ w' : World, (∀ b, lo ≤ b → b < w.heap.size → w'.heap[b]? = w.heap[b]?) → w.heap.size ≤ w'.heap.size → StaQ S q w'
theorem StaF.sta {lo : Nat} {S : SA} {q : Q4} {w : World} (h : StaF lo S q w) : StaQ S q w := h w (fun _ _ _ => rfl) (Nat.le_refl _)
theorem StaF.set {lo : Nat} {S : SA} {q : Q4} {w : World} (h : StaF lo S q w) (b j : Nat) (u : Value) (hb : b < lo) : StaF lo S q (w.setCell ⟨b, j, none⟩ u) := fun w' h1 h2 => h w' (fun c hc hs => (h1 c hc (by rw [World.size_setCell]; exact hs)).trans (set_block w b j u c (by omega))) (by rw [World.size_setCell] at h2; exact h2)
theorem StaF.low {lo lo' : Nat} {S : SA} {q : Q4} {w : World} (h : StaF lo S q w) (hl : lo' ≤ lo) : StaF lo' S q w := fun w' h1 h2 => h w' (fun c hc hs => h1 c (Nat.le_trans hl hc) hs) h2
theorem StaF.below {lo : Nat} {S : SA} {q : Q4} {w w' : World} (h : StaF lo S q w) (hb : Below w.heap.size w w') : StaF lo S q w' := fun w2 h1 h2 => h w2 (fun c hc hs => (h1 c hc (Nat.lt_of_lt_of_le hs hb.size)).trans (hb.block c hs)) (Nat.le_trans hb.size h2)
theorem OwnQ.staF {C : Nat} {l : List TxA} {sh : Nat} {S : SA} {q : Q4} {w : World} (h : OwnQ C l sh S q w) (h0 : 0 < sh) : StaF C S q w := fun w' h1 h2 => by
 obtain ⟨e1, e2, e3, e4, g0, c1, c2, c3, hi, gr, gw, gv, Br, Bw, Bv, o⟩ := h
 have e5 := o.h5
 exact OwnQ.sta ⟨e1, e2, e3, e4, g0, c1, c2, c3, hi, gr, gw, gv, Br, Bw, Bv, o.keep (fun c hc hs => h1 c hc (by omega)) h2⟩ h0
def qNil : Q4 := ⟨none, none, none, none, 0, 0, 0, 0, 0, 0, 0, 0⟩
def SNil : SA := ⟨[], [], [], []⟩
theorem staQ_nil (w : World) : StaQ SNil qNil w := ⟨rfl, rfl, rfl, rfl, fun _ h => absurd h (Nat.not_lt_zero _), fun _ h => absurd h (Nat.not_lt_zero _), fun _ h => absurd h (Nat.not_lt_zero _), fun _ h => absurd h (Nat.not_lt_zero _)⟩
theorem staF_nil (lo : Nat) (w : World) : StaF lo SNil qNil w := fun w' _ _ => staQ_nil w'
def doE (m : Int) (l : List TxA) (S : SA) (kd n k : Int) : Int := if stE m l S = 0 then stepE m.toNat l S kd n k else stE m l S
def doS (m : Int) (l : List TxA) (S : SA) (kd n k : Int) : SA := if doE m l S kd n k = 0 then doX m.toNat l S kd.toNat n.toNat k.toNat else SNil
theorem frozen_new (w : World) (cs : Array Value) (t : TypeId) (b j : Nat) (e : b = w.heap.size) : (w.alloc (.cells cs t)).frozen? ⟨b, j, none⟩ = false := by subst e; simp
variable (la : Option Addr) (lc : Nat) (l : List TxA) (sa ra wa va : Option Addr) (sc rc tc vc : Nat) (S : SA)
set_option maxHeartbeats 2000000 in
theorem stepsDo_any (m kd n k : Int) (w : World) (hl : IsTxs w la l) (hs : Sta w sa ra wa va S) :
  Calls Tryz.prog 65 #[.agg #[.int .i64 m, .slice la l.length lc], .agg #[.slice sa S.st.length sc, .slice ra S.rd.length rc, .slice wa S.wr.length tc, .slice va S.vs.length vc], .agg #[.int .i64 kd, .int .i64 n, .int .i64 k]] w fun e w' => ∃ q : Q4, e = .returned (.tuple #[.agg #[.slice q.sa q.sn q.sc, .slice q.ra q.rn q.rc, .slice q.wa q.wn q.tc, .slice q.va q.vn q.vc], .int .i64 (doE m l S kd n k)]) ∧ StaF w.heap.size (doS m l S kd n k) q w' ∧ Below w.heap.size w w' := by
 have hg : Below w.heap.size w ((((((w.alloc (.cells #[.int .i64 m, .slice la l.length lc] 24)).alloc (.cells #[.slice sa S.st.length sc, .slice ra S.rd.length rc, .slice wa S.wr.length tc, .slice va S.vs.length vc] 29)).alloc (.cells #[.int .i64 kd, .int .i64 n, .int .i64 k] 125)).alloc (.cells #[.slice none 0 0, .slice none 0 0, .slice none 0 0, .slice none 0 0] 29)).alloc (.cells #[.slice none 0 0, .slice none 0 0, .slice none 0 0, .slice none 0 0] 29)).alloc (.cells #[.int .i64 0] 30)) := (grow_alloc (grow_alloc (grow_alloc (grow_alloc (grow_alloc (grow_alloc (Below.refl _ _) _) _) _) _) _) _)
 have hU : Hid (Below w.heap.size w ((((w.alloc (.cells #[.int .i64 m, .slice la l.length lc] 24)).alloc (.cells #[.slice sa S.st.length sc, .slice ra S.rd.length rc, .slice wa S.wr.length tc, .slice va S.vs.length vc] 29)).alloc (.cells #[.int .i64 kd, .int .i64 n, .int .i64 k] 125)).alloc (.cells #[.slice none 0 0, .slice none 0 0, .slice none 0 0, .slice none 0 0] 29))) := (grow_alloc (grow_alloc (grow_alloc (grow_alloc (Below.refl _ _) _) _) _) _)
 have hmf : ∀ (fn : Fn) (first cap : Array Value) (w : World), (Instr.makeFunc fn first cap).run Tryz.prog w = .ok (.func fn first cap) w := fun _ _ _ _ => rfl
 have p0 : ((((((w.alloc (.cells #[.int .i64 m, .slice la l.length lc] 24)).alloc (.cells #[.slice sa S.st.length sc, .slice ra S.rd.length rc, .slice wa S.wr.length tc, .slice va S.vs.length vc] 29)).alloc (.cells #[.int .i64 kd, .int .i64 n, .int .i64 k] 125)).alloc (.cells #[.slice none 0 0, .slice none 0 0, .slice none 0 0, .slice none 0 0] 29)).alloc (.cells #[.slice none 0 0, .slice none 0 0, .slice none 0 0, .slice none 0 0] 29)).alloc (.cells #[.int .i64 0] 30)).cell? ⟨w.heap.size, 0, none⟩ = some (.int .i64 m) := ext_cell (grow_alloc (grow_alloc (grow_alloc (grow_alloc (grow_alloc (Below.refl _ _) _) _) _) _) _) (at_new _ _ 24 _ 0 _ (by first | rfl | simp) rfl)
 have p1 : ((((((w.alloc (.cells #[.int .i64 m, .slice la l.length lc] 24)).alloc (.cells #[.slice sa S.st.length sc, .slice ra S.rd.length rc, .slice wa S.wr.length tc, .slice va S.vs.length vc] 29)).alloc (.cells #[.int .i64 kd, .int .i64 n, .int .i64 k] 125)).alloc (.cells #[.slice none 0 0, .slice none 0 0, .slice none 0 0, .slice none 0 0] 29)).alloc (.cells #[.slice none 0 0, .slice none 0 0, .slice none 0 0, .slice none 0 0] 29)).alloc (.cells #[.int .i64 0] 30)).cell? ⟨w.heap.size, 1, none⟩ = some (.slice la l.length lc) := ext_cell (grow_alloc (grow_alloc (grow_alloc (grow_alloc (grow_alloc (Below.refl _ _) _) _) _) _) _) (at_new _ _ 24 _ 1 _ (by first | rfl | simp) rfl)
 have q0 : ((((((w.alloc (.cells #[.int .i64 m, .slice la l.length lc] 24)).alloc (.cells #[.slice sa S.st.length sc, .slice ra S.rd.length rc, .slice wa S.wr.length tc, .slice va S.vs.length vc] 29)).alloc (.cells #[.int .i64 kd, .int .i64 n, .int .i64 k] 125)).alloc (.cells #[.slice none 0 0, .slice none 0 0, .slice none 0 0, .slice none 0 0] 29)).alloc (.cells #[.slice none 0 0, .slice none 0 0, .slice none 0 0, .slice none 0 0] 29)).alloc (.cells #[.int .i64 0] 30)).cell? ⟨w.heap.size + 1, 0, none⟩ = some (.slice sa S.st.length sc) := ext_cell (grow_alloc (grow_alloc (grow_alloc (grow_alloc (Below.refl _ _) _) _) _) _) (at_new _ _ 29 _ 0 _ (by first | rfl | simp) rfl)
 have q1 : ((((((w.alloc (.cells #[.int .i64 m, .slice la l.length lc] 24)).alloc (.cells #[.slice sa S.st.length sc, .slice ra S.rd.length rc, .slice wa S.wr.length tc, .slice va S.vs.length vc] 29)).alloc (.cells #[.int .i64 kd, .int .i64 n, .int .i64 k] 125)).alloc (.cells #[.slice none 0 0, .slice none 0 0, .slice none 0 0, .slice none 0 0] 29)).alloc (.cells #[.slice none 0 0, .slice none 0 0, .slice none 0 0, .slice none 0 0] 29)).alloc (.cells #[.int .i64 0] 30)).cell? ⟨w.heap.size + 1, 1, none⟩ = some (.slice ra S.rd.length rc) := ext_cell (grow_alloc (grow_alloc (grow_alloc (grow_alloc (Below.refl _ _) _) _) _) _) (at_new _ _ 29 _ 1 _ (by first | rfl | simp) rfl)
 have q2 : ((((((w.alloc (.cells #[.int .i64 m, .slice la l.length lc] 24)).alloc (.cells #[.slice sa S.st.length sc, .slice ra S.rd.length rc, .slice wa S.wr.length tc, .slice va S.vs.length vc] 29)).alloc (.cells #[.int .i64 kd, .int .i64 n, .int .i64 k] 125)).alloc (.cells #[.slice none 0 0, .slice none 0 0, .slice none 0 0, .slice none 0 0] 29)).alloc (.cells #[.slice none 0 0, .slice none 0 0, .slice none 0 0, .slice none 0 0] 29)).alloc (.cells #[.int .i64 0] 30)).cell? ⟨w.heap.size + 1, 2, none⟩ = some (.slice wa S.wr.length tc) := ext_cell (grow_alloc (grow_alloc (grow_alloc (grow_alloc (Below.refl _ _) _) _) _) _) (at_new _ _ 29 _ 2 _ (by first | rfl | simp) rfl)
 have q3 : ((((((w.alloc (.cells #[.int .i64 m, .slice la l.length lc] 24)).alloc (.cells #[.slice sa S.st.length sc, .slice ra S.rd.length rc, .slice wa S.wr.length tc, .slice va S.vs.length vc] 29)).alloc (.cells #[.int .i64 kd, .int .i64 n, .int .i64 k] 125)).alloc (.cells #[.slice none 0 0, .slice none 0 0, .slice none 0 0, .slice none 0 0] 29)).alloc (.cells #[.slice none 0 0, .slice none 0 0, .slice none 0 0, .slice none 0 0] 29)).alloc (.cells #[.int .i64 0] 30)).cell? ⟨w.heap.size + 1, 3, none⟩ = some (.slice va S.vs.length vc) := ext_cell (grow_alloc (grow_alloc (grow_alloc (grow_alloc (Below.refl _ _) _) _) _) _) (at_new _ _ 29 _ 3 _ (by first | rfl | simp) rfl)
 have r0 : ((((((w.alloc (.cells #[.int .i64 m, .slice la l.length lc] 24)).alloc (.cells #[.slice sa S.st.length sc, .slice ra S.rd.length rc, .slice wa S.wr.length tc, .slice va S.vs.length vc] 29)).alloc (.cells #[.int .i64 kd, .int .i64 n, .int .i64 k] 125)).alloc (.cells #[.slice none 0 0, .slice none 0 0, .slice none 0 0, .slice none 0 0] 29)).alloc (.cells #[.slice none 0 0, .slice none 0 0, .slice none 0 0, .slice none 0 0] 29)).alloc (.cells #[.int .i64 0] 30)).cell? ⟨w.heap.size + 2, 0, none⟩ = some (.int .i64 kd) := ext_cell (grow_alloc (grow_alloc (grow_alloc (Below.refl _ _) _) _) _) (at_new _ _ 125 _ 0 _ (by first | rfl | simp) rfl)
 have r1 : ((((((w.alloc (.cells #[.int .i64 m, .slice la l.length lc] 24)).alloc (.cells #[.slice sa S.st.length sc, .slice ra S.rd.length rc, .slice wa S.wr.length tc, .slice va S.vs.length vc] 29)).alloc (.cells #[.int .i64 kd, .int .i64 n, .int .i64 k] 125)).alloc (.cells #[.slice none 0 0, .slice none 0 0, .slice none 0 0, .slice none 0 0] 29)).alloc (.cells #[.slice none 0 0, .slice none 0 0, .slice none 0 0, .slice none 0 0] 29)).alloc (.cells #[.int .i64 0] 30)).cell? ⟨w.heap.size + 2, 1, none⟩ = some (.int .i64 n) := ext_cell (grow_alloc (grow_alloc (grow_alloc (Below.refl _ _) _) _) _) (at_new _ _ 125 _ 1 _ (by first | rfl | simp) rfl)
 have r2 : ((((((w.alloc (.cells #[.int .i64 m, .slice la l.length lc] 24)).alloc (.cells #[.slice sa S.st.length sc, .slice ra S.rd.length rc, .slice wa S.wr.length tc, .slice va S.vs.length vc] 29)).alloc (.cells #[.int .i64 kd, .int .i64 n, .int .i64 k] 125)).alloc (.cells #[.slice none 0 0, .slice none 0 0, .slice none 0 0, .slice none 0 0] 29)).alloc (.cells #[.slice none 0 0, .slice none 0 0, .slice none 0 0, .slice none 0 0] 29)).alloc (.cells #[.int .i64 0] 30)).cell? ⟨w.heap.size + 2, 2, none⟩ = some (.int .i64 k) := ext_cell (grow_alloc (grow_alloc (grow_alloc (Below.refl _ _) _) _) _) (at_new _ _ 125 _ 2 _ (by first | rfl | simp) rfl)
 have T0 : Hid (∀ j, j < 4 → ((((w.alloc (.cells #[.int .i64 m, .slice la l.length lc] 24)).alloc (.cells #[.slice sa S.st.length sc, .slice ra S.rd.length rc, .slice wa S.wr.length tc, .slice va S.vs.length vc] 29)).alloc (.cells #[.int .i64 kd, .int .i64 n, .int .i64 k] 125)).alloc (.cells #[.slice none 0 0, .slice none 0 0, .slice none 0 0, .slice none 0 0] 29)).cell? ⟨w.heap.size + 3, j, none⟩ = some (.slice none 0 0)) := fun j hj => by
  match j, hj with
  | 0, _ => exact at_new _ _ 29 _ 0 _ (by simp) rfl
  | 1, _ => exact at_new _ _ 29 _ 1 _ (by simp) rfl
  | 2, _ => exact at_new _ _ 29 _ 2 _ (by simp) rfl
  | 3, _ => exact at_new _ _ 29 _ 3 _ (by simp) rfl
 have TF : Hid (∀ j, ((((w.alloc (.cells #[.int .i64 m, .slice la l.length lc] 24)).alloc (.cells #[.slice sa S.st.length sc, .slice ra S.rd.length rc, .slice wa S.wr.length tc, .slice va S.vs.length vc] 29)).alloc (.cells #[.int .i64 kd, .int .i64 n, .int .i64 k] 125)).alloc (.cells #[.slice none 0 0, .slice none 0 0, .slice none 0 0, .slice none 0 0] 29)).frozen? ⟨w.heap.size + 3, j, none⟩ = false) := fun j => frozen_new _ _ 29 _ j (by simp)
 have sz : Hid (((((w.alloc (.cells #[.int .i64 m, .slice la l.length lc] 24)).alloc (.cells #[.slice sa S.st.length sc, .slice ra S.rd.length rc, .slice wa S.wr.length tc, .slice va S.vs.length vc] 29)).alloc (.cells #[.int .i64 kd, .int .i64 n, .int .i64 k] 125)).alloc (.cells #[.slice none 0 0, .slice none 0 0, .slice none 0 0, .slice none 0 0] 29)).heap.size = w.heap.size + 4) := by show _ = _; simp
 have CC : Hid (Calls Tryz.prog 35 #[.func (.func 88) #[] #[.pointer (some ⟨w.heap.size, 0, none⟩), .pointer (some ⟨w.heap.size + 1, 0, none⟩), .pointer (some ⟨w.heap.size + 2, 0, none⟩)]] ((((w.alloc (.cells #[.int .i64 m, .slice la l.length lc] 24)).alloc (.cells #[.slice sa S.st.length sc, .slice ra S.rd.length rc, .slice wa S.wr.length tc, .slice va S.vs.length vc] 29)).alloc (.cells #[.int .i64 kd, .int .i64 n, .int .i64 k] 125)).alloc (.cells #[.slice none 0 0, .slice none 0 0, .slice none 0 0, .slice none 0 0] 29)) fun e w' => ∃ q : Q4, e = .returned (.tuple #[.agg #[.slice q.sa q.sn q.sc, .slice q.ra q.rn q.rc, .slice q.wa q.wn q.tc, .slice q.va q.vn q.vc], .int .i64 (doE m l S kd n k)]) ∧ StaF (w.heap.size + 4) (doS m l S kd n k) q w' ∧ Below ((((w.alloc (.cells #[.int .i64 m, .slice la l.length lc] 24)).alloc (.cells #[.slice sa S.st.length sc, .slice ra S.rd.length rc, .slice wa S.wr.length tc, .slice va S.vs.length vc] 29)).alloc (.cells #[.int .i64 kd, .int .i64 n, .int .i64 k] 125)).alloc (.cells #[.slice none 0 0, .slice none 0 0, .slice none 0 0, .slice none 0 0] 29)).heap.size ((((w.alloc (.cells #[.int .i64 m, .slice la l.length lc] 24)).alloc (.cells #[.slice sa S.st.length sc, .slice ra S.rd.length rc, .slice wa S.wr.length tc, .slice va S.vs.length vc] 29)).alloc (.cells #[.int .i64 kd, .int .i64 n, .int .i64 k] 125)).alloc (.cells #[.slice none 0 0, .slice none 0 0, .slice none 0 0, .slice none 0 0] 29)) w') := by
  by_cases hE : stE m l S = 0
  ·obtain ⟨sh, rfl, h0, _⟩ := stE_zero hE
   have e1 : doE (sh : Int) l S kd n k = stepE sh l S kd n k := by unfold doE; rw [if_pos hE]; rfl
   by_cases hT : stepE sh l S kd n k = 0
   ·have e2 : doS (sh : Int) l S kd n k = doX sh l S kd.toNat n.toNat k.toNat := by unfold doS; rw [e1, if_pos hT]; rfl
    rw [e1, e2, hT]
    obtain ⟨K, N, k', rfl, rfl, rfl, hK, hN, hk, _⟩ := stepE_zero hT
    refine (caughtSa_ret 88 _ (fun _ => rfl) (fun q w' => OwnQ (w.heap.size + 6) l sh (doX sh l S K N k') q w') _ (fun q w' i u j hj h => h.set j i u (by have := sz.out; omega)) ((do1_ok la lc l sa ra wa va sc rc tc vc S sh K N k' _ _ _ _ p0 p1 q0 q1 q2 q3 r0 r1 r2 (hl.below hg) (hs.below hg) hE hT hK hN hk).mono ?_)).mono ?_
    ·rintro e w' ⟨sa', ra', wa', va', sc', rc', tc', vc', g0, c1, c2, c3, hi, gr, gw, gv, Br, Bw, Bv, rfl, ho, hb⟩
     refine ⟨⟨sa', ra', wa', va', 8, l.length, l.length, l.length, sc', rc', tc', vc'⟩, rfl, ⟨rfl, rfl, rfl, rfl, g0, c1, c2, c3, hi, gr, gw, gv, Br, Bw, Bv, ho.low (by first | exact Nat.le_refl _ | simp)⟩, hb⟩
    ·rintro e w' ⟨q, rfl, ho, hb⟩
     exact ⟨q, rfl, (ho.staF h0).low (by omega), hb⟩
   ·have e2 : doS (sh : Int) l S kd n k = SNil := by unfold doS; rw [e1, if_neg hT]
    rw [e1, e2]
    refine (caughtSa_pan 88 _ (fun _ => rfl) _ _ (do1_step la lc l sa ra wa va sc rc tc vc S sh kd n k _ _ _ _ p0 p1 q0 q1 q2 q3 r0 r1 r2 (hl.below hg) (hs.below hg) hE hT)).mono ?_
    rintro e w' ⟨rfl, hb⟩
    exact ⟨qNil, rfl, staF_nil _ _, hb⟩
  ·have e1 : doE m l S kd n k = stE m l S := by unfold doE; rw [if_neg hE]
   have e2 : doS m l S kd n k = SNil := by unfold doS; rw [e1, if_neg hE]
   rw [e1, e2]
   refine (caughtSa_pan 88 _ (fun _ => rfl) _ _ (do1_pan la lc l sa ra wa va sc rc tc vc S m _ _ _ _ p0 p1 q0 q1 q2 q3 (hl.below hg) (hs.below hg) hE)).mono ?_
   rintro e w' ⟨rfl, hb⟩
   exact ⟨qNil, rfl, staF_nil _ _, hb⟩
 clear hg p0 p1 q0 q1 q2 q3 r0 r1 r2 hl hs
 go_enter Tryz.func65, Tryz.ntmps65
 go_upto_region 1 with fail
 generalize ((((w.alloc (.cells #[.int .i64 m, .slice la l.length lc] 24)).alloc (.cells #[.slice sa S.st.length sc, .slice ra S.rd.length rc, .slice wa S.wr.length tc, .slice va S.vs.length vc] 29)).alloc (.cells #[.int .i64 kd, .int .i64 n, .int .i64 k] 125)).alloc (.cells #[.slice none 0 0, .slice none 0 0, .slice none 0 0, .slice none 0 0] 29)) = W at *
 go_wp2_with fail
 refine CC.out.mono ?_
 clear CC
 rintro e w1 ⟨q, rfl, hq, hb⟩
 have t0 := ext_cell hb (T0.out 0 (by decide))
 have t1 := ext_cell hb (T0.out 1 (by decide))
 have t2 := ext_cell hb (T0.out 2 (by decide))
 have t3 := ext_cell hb (T0.out 3 (by decide))
 have tf : ∀ j, w1.frozen? ⟨w.heap.size + 3, j, none⟩ = false := fun j => (hb.frozen (p := ⟨w.heap.size + 3, j, none⟩) (by have := sz.out; show w.heap.size + 3 < _; omega)).trans (TF.out j)
 have FB : Hid (Below w.heap.size w ((((w1.setCell ⟨w.heap.size + 3, 0, none⟩ (.slice q.sa q.sn q.sc)).setCell ⟨w.heap.size + 3, 1, none⟩ (.slice q.ra q.rn q.rc)).setCell ⟨w.heap.size + 3, 2, none⟩ (.slice q.wa q.wn q.tc)).setCell ⟨w.heap.size + 3, 3, none⟩ (.slice q.va q.vn q.vc))) := grow_set (grow_set (grow_set (grow_set (grow_trans hU.out hb) (by simp) _) (by simp) _) (by simp) _) (by simp) _
 have FS : Hid (StaF w.heap.size (doS m l S kd n k) q ((((w1.setCell ⟨w.heap.size + 3, 0, none⟩ (.slice q.sa q.sn q.sc)).setCell ⟨w.heap.size + 3, 1, none⟩ (.slice q.ra q.rn q.rc)).setCell ⟨w.heap.size + 3, 2, none⟩ (.slice q.wa q.wn q.tc)).setCell ⟨w.heap.size + 3, 3, none⟩ (.slice q.va q.vn q.vc))) := ((((hq.set _ 0 _ (by omega)).set _ 1 _ (by omega)).set _ 2 _ (by omega)).set _ 3 _ (by omega)).low (by omega)
 clear hq hb T0 TF
 go_wp2_with fail
 have x0 : ((((w1.setCell ⟨w.heap.size + 3, 0, none⟩ (.slice q.sa q.sn q.sc)).setCell ⟨w.heap.size + 3, 1, none⟩ (.slice q.ra q.rn q.rc)).setCell ⟨w.heap.size + 3, 2, none⟩ (.slice q.wa q.wn q.tc)).setCell ⟨w.heap.size + 3, 3, none⟩ (.slice q.va q.vn q.vc)).cell? ⟨w.heap.size + 3, 0, none⟩ = some (.slice q.sa q.sn q.sc) := (set_off (by decide) (set_off (by decide) (set_off (by decide) (set_here t0))))
 have x1 : ((((w1.setCell ⟨w.heap.size + 3, 0, none⟩ (.slice q.sa q.sn q.sc)).setCell ⟨w.heap.size + 3, 1, none⟩ (.slice q.ra q.rn q.rc)).setCell ⟨w.heap.size + 3, 2, none⟩ (.slice q.wa q.wn q.tc)).setCell ⟨w.heap.size + 3, 3, none⟩ (.slice q.va q.vn q.vc)).cell? ⟨w.heap.size + 3, 1, none⟩ = some (.slice q.ra q.rn q.rc) := (set_off (by decide) (set_off (by decide) (set_here (set_off (by decide) t1))))
 have x2 : ((((w1.setCell ⟨w.heap.size + 3, 0, none⟩ (.slice q.sa q.sn q.sc)).setCell ⟨w.heap.size + 3, 1, none⟩ (.slice q.ra q.rn q.rc)).setCell ⟨w.heap.size + 3, 2, none⟩ (.slice q.wa q.wn q.tc)).setCell ⟨w.heap.size + 3, 3, none⟩ (.slice q.va q.vn q.vc)).cell? ⟨w.heap.size + 3, 2, none⟩ = some (.slice q.wa q.wn q.tc) := (set_off (by decide) (set_here (set_off (by decide) (set_off (by decide) t2))))
 have x3 : ((((w1.setCell ⟨w.heap.size + 3, 0, none⟩ (.slice q.sa q.sn q.sc)).setCell ⟨w.heap.size + 3, 1, none⟩ (.slice q.ra q.rn q.rc)).setCell ⟨w.heap.size + 3, 2, none⟩ (.slice q.wa q.wn q.tc)).setCell ⟨w.heap.size + 3, 3, none⟩ (.slice q.va q.vn q.vc)).cell? ⟨w.heap.size + 3, 3, none⟩ = some (.slice q.va q.vn q.vc) := (set_here (set_off (by decide) (set_off (by decide) (set_off (by decide) t3))))
 generalize ((((w1.setCell ⟨w.heap.size + 3, 0, none⟩ (.slice q.sa q.sn q.sc)).setCell ⟨w.heap.size + 3, 1, none⟩ (.slice q.ra q.rn q.rc)).setCell ⟨w.heap.size + 3, 2, none⟩ (.slice q.wa q.wn q.tc)).setCell ⟨w.heap.size + 3, 3, none⟩ (.slice q.va q.vn q.vc)) = WF at *
 refine bodyPost_ret (v := .tuple #[.agg #[.slice q.sa q.sn q.sc, .slice q.ra q.rn q.rc, .slice q.wa q.wn q.tc, .slice q.va q.vn q.vc], .int .i64 (doE m l S kd n k)]) (by simp [results, Tryz.results65, go_sem, x0, x1, x2, x3]) rfl ⟨q, rfl, FS.out, FB.out⟩
end Go.Proofs.YtcgpkonfneofdaaGreat
namespace Go.Proofs.YtcgpkonfneofdaaGreat
open Go.RowKit
def Foot (v : Value) (k : Nat) (len : Nat → Nat) (B : Nat → Nat) (b : Nat) : Prop := v.ownBlock = some b ∨ ∃ i, i < k ∧ 0 < len i ∧ B i = b
theorem CR.lt {T C : Nat} {w : World} {v : Value} {k : Nat} {len : Nat → Nat} {G : Nat → Nat → Value} {L : List (Option Addr × Nat × Nat)} {B : Nat → Nat} (h : CR T C w v k len G L B) {b : Nat} (hf : Foot v k len B b) : C ≤ b ∧ b < w.heap.size := by
 rcases hf with e | ⟨i, hi, hl, rfl⟩
 ·exact h.o.lt b e
 ·exact ⟨(h.b i hi hl).1, (h.b i hi hl).2.1⟩
theorem CR.on {T C : Nat} {w w' : World} {v : Value} {k : Nat} {len : Nat → Nat} {G : Nat → Nat → Value} {L : List (Option Addr × Nat × Nat)} {B : Nat → Nat} (h : CR T C w v k len G L B) {row : Option Nat} (hg : w.grownBy w' row) (hr : ∀ b, row = some b → ¬ Foot v k len B b) : CR T C w' v k len G L B :=
 ⟨h.n, own_kept h.o hg (fun j e q => hr j q (.inl e)), h.e, fun i hi hl => ⟨(h.b i hi hl).1, Nat.lt_of_lt_of_le (h.b i hi hl).2.1 hg.size, (h.b i hi hl).2.2⟩, h.d, fun i m hi hm => hg.cell (h.c i m hi hm) (fun q => hr (B i) q.symm (.inr ⟨i, hi, by omega, rfl⟩)), fun i m hi hl => (World.frozen?_of_block (a := ⟨B i, m, none⟩) (hg.block (B i) (h.b i hi hl).2.1 (fun q => hr (B i) q.symm (.inr ⟨i, hi, hl, rfl⟩)))).trans (h.f i m hi hl)⟩
theorem CR.pushed {T C : Nat} {V wc w3 : World} {v v' : Value} {k : Nat} {len : Nat → Nat} {G : Nat → Nat → Value} {L : List (Option Addr × Nat × Nat)} {B : Nat → Nat} {a : Option Addr} {c g : Nat} (h : CR T C V v k len G L B) (hb : Below V.heap.size V wc)
  (ho : w3.ownsRow C T 1 v' (L.length + 1) ((L.map fun p => Value.slice p.1 p.2.1 p.2.2) ++ [.slice a (len k) c])) (hg : wc.grownBy w3 v.ownBlock) (hv : v'.ownBlock = v.ownBlock ∨ v'.ownBlock = some wc.heap.size)
  (hn : NewRow V.heap.size wc a c g (len k) (G k)) (hC : C ≤ V.heap.size) (H j : Nat) (hH : H < C) (u : Value) :
  ∃ B', CR T C (w3.setCell ⟨H, j, none⟩ u) v' (k + 1) len G (L ++ [(a, len k, c)]) B' ∧ ∀ b, Foot v' (k + 1) len B' b → Foot v k len B b ∨ V.heap.size ≤ b := by
 have h' := h.below hb
 have P := CR.push (B' := fun i => if i = k then g else B i) h' h.n ho hg hv hn hC (fun j e => (h.lt (.inl e)).2) (fun i hi hl => (h.b i hi hl).2.1) (if_pos rfl) (fun i hi => if_neg hi)
 refine ⟨_, P.on (grownBy_one w3 H j u) (fun b e q => by injection e with e; have := (P.lt q).1; omega), fun b hf => ?_⟩
 rcases hf with e | ⟨i, hi, hl, e⟩
 ·rcases hv with x | x
  ·exact .inl (.inl (x.symm.trans e))
  ·rw [x] at e; injection e with e; have := hb.size; exact .inr (by omega)
 ·by_cases q : i = k
  ·subst q
   have e : (if i = i then g else B i) = b := e
   rw [if_pos rfl] at e
   exact .inr (by rw [← e]; exact (hn.e hl).2.1)
  ·have e : (if i = k then g else B i) = b := e
   rw [if_neg q] at e
   exact .inl (.inr ⟨i, by omega, hl, e⟩)
theorem CR.stays {T T' C : Nat} {V wc w3 : World} {v : Value} {k : Nat} {len : Nat → Nat} {G : Nat → Nat → Value} {L : List (Option Addr × Nat × Nat)} {B : Nat → Nat} {v2 : Value} {k2 : Nat} {len2 : Nat → Nat} {G2 : Nat → Nat → Value} {L2 : List (Option Addr × Nat × Nat)} {B2 : Nat → Nat} (_h : CR T C V v k len G L B) (h2 : CR T' C V v2 k2 len2 G2 L2 B2) (hb : Below V.heap.size V wc) (hg : wc.grownBy w3 v.ownBlock) (hap : ∀ b, Foot v k len B b → Foot v2 k2 len2 B2 b → False) (H j : Nat) (hH : H < C) (u : Value) : CR T' C (w3.setCell ⟨H, j, none⟩ u) v2 k2 len2 G2 L2 B2 := by
 have P := (h2.below hb).on hg (fun b e q => hap b (.inl e) q)
 exact P.on (grownBy_one w3 H j u) (fun b e q => by injection e with e; have := (P.lt q).1; omega)
structure Beg (w0 w : World) (B : Nat) (u0 v1 v2 v3 : Value) (k1 k2 k3 sh : Nat) (l : List TxA) (L1 L2 L3 : List (Option Addr × Nat × Nat)) (B1 B2 B3 : Nat → Nat) : Prop where
 c0 : w.cell? ⟨B, 0, none⟩ = some u0
 c1 : w.cell? ⟨B, 1, none⟩ = some v1
 c2 : w.cell? ⟨B, 2, none⟩ = some v2
 c3 : w.cell? ⟨B, 3, none⟩ = some v3
 fz : ∀ j, w.frozen? ⟨B, j, none⟩ = false
 r1 : CR 80 (B + 1) w v1 k1 (fun _ => sh) (fun _ _ => .bool false) L1 B1
 r2 : CR 80 (B + 1) w v2 k2 (fun _ => sh) (fun _ _ => .bool false) L2 B2
 r3 : CR 25 (B + 1) w v3 k3 (fun i => (gX l i).rs.length) (fun _ _ => .int .i64 0) L3 B3
 a12 : ∀ b, Foot v1 k1 (fun _ => sh) B1 b → Foot v2 k2 (fun _ => sh) B2 b → False
 a13 : ∀ b, Foot v1 k1 (fun _ => sh) B1 b → Foot v3 k3 (fun i => (gX l i).rs.length) B3 b → False
 a23 : ∀ b, Foot v2 k2 (fun _ => sh) B2 b → Foot v3 k3 (fun i => (gX l i).rs.length) B3 b → False
 bl : Below w0.heap.size w0 w
 hw : w0.heap.size ≤ B
 hs : B < w.heap.size
theorem Beg.below {w0 V : World} {B : Nat} {u0 v1 v2 v3 : Value} {k1 k2 k3 sh : Nat} {l : List TxA} {L1 L2 L3 : List (Option Addr × Nat × Nat)} {B1 B2 B3 : Nat → Nat} {w' : World} (h : Beg w0 V B u0 v1 v2 v3 k1 k2 k3 sh l L1 L2 L3 B1 B2 B3) (hb : Below V.heap.size V w') : Beg w0 w' B u0 v1 v2 v3 k1 k2 k3 sh l L1 L2 L3 B1 B2 B3 :=
 ⟨ext_cell hb h.c0, ext_cell hb h.c1, ext_cell hb h.c2, ext_cell hb h.c3, fun j => (hb.frozen (p := ⟨B, j, none⟩) h.hs).trans (h.fz j), h.r1.below hb, h.r2.below hb, h.r3.below hb, h.a12, h.a13, h.a23, grow_trans h.bl hb, h.hw, Nat.lt_of_lt_of_le h.hs hb.size⟩
theorem Beg.push1 {w0 V : World} {B : Nat} {u0 v1 v2 v3 : Value} {k1 k2 k3 sh : Nat} {l : List TxA} {L1 L2 L3 : List (Option Addr × Nat × Nat)} {B1 B2 B3 : Nat → Nat} {wc w3 : World} {v1' : Value} {a : Option Addr} {c g : Nat} (hV : Beg w0 V B u0 v1 v2 v3 k1 k2 k3 sh l L1 L2 L3 B1 B2 B3) (hb : Below V.heap.size V wc)
  (ho : w3.ownsRow (B + 1) 80 1 v1' (L1.length + 1) ((L1.map fun p => Value.slice p.1 p.2.1 p.2.2) ++ [.slice a sh c])) (hg : wc.grownBy w3 v1.ownBlock) (hv : v1'.ownBlock = v1.ownBlock ∨ v1'.ownBlock = some wc.heap.size)
  (hn : NewRow V.heap.size wc a c g sh (fun _ => .bool false)) : ∃ B', Beg w0 (w3.setCell ⟨B, 1, none⟩ v1') B u0 v1' v2 v3 (k1 + 1) k2 k3 sh l (L1 ++ [(a, sh, c)]) L2 L3 B' B2 B3 := by
 have hc := hV.below hb
 have hn : some B ≠ v1.ownBlock ∧ NewRow V.heap.size wc a c g sh (fun _ => .bool false) := ⟨fun e => by have := (hc.r1.o.lt B e.symm).1; omega, hn⟩
 obtain ⟨hn, hnr⟩ := hn
 obtain ⟨B', P1, P2⟩ := hV.r1.pushed hb ho hg hv hnr (by have := hV.hs; omega) B 1 (Nat.lt_succ_self _) v1'
 have hbl : Below w0.heap.size w0 w3 := hc.bl.grown hg hc.bl.size (fun j e => by have := (hc.r1.o.lt j e).1; have := hc.hw; omega)
 exact ⟨B', set_off (by decide) (hg.cell hc.c0 hn), set_here (hg.cell hc.c1 hn), set_off (by decide) (hg.cell hc.c2 hn), set_off (by decide) (hg.cell hc.c3 hn), fun j => by
  simp only [World.frozen?_setCell]
  exact (World.frozen?_of_block (a := ⟨B, j, none⟩) (hg.block B hc.hs hn)).trans (hc.fz j), P1, CR.stays hV.r1 hV.r2 hb hg hV.a12 B 1 (Nat.lt_succ_self _) _, CR.stays hV.r1 hV.r3 hb hg hV.a13 B 1 (Nat.lt_succ_self _) _, (fun b p q => (P2 b p).elim (fun p => hV.a12 b p q) (fun p => by have := (hV.r2.lt q).2; omega)), (fun b p q => (P2 b p).elim (fun p => hV.a13 b p q) (fun p => by have := (hV.r3.lt q).2; omega)), hV.a23, grow_set hbl hc.hw _, hc.hw, by simp only [World.size_setCell]; exact Nat.lt_of_lt_of_le hc.hs hg.size⟩
theorem Beg.push2 {w0 V : World} {B : Nat} {u0 v1 v2 v3 : Value} {k1 k2 k3 sh : Nat} {l : List TxA} {L1 L2 L3 : List (Option Addr × Nat × Nat)} {B1 B2 B3 : Nat → Nat} {wc w3 : World} {v2' : Value} {a : Option Addr} {c g : Nat} (hV : Beg w0 V B u0 v1 v2 v3 k1 k2 k3 sh l L1 L2 L3 B1 B2 B3) (hb : Below V.heap.size V wc)
  (ho : w3.ownsRow (B + 1) 80 1 v2' (L2.length + 1) ((L2.map fun p => Value.slice p.1 p.2.1 p.2.2) ++ [.slice a sh c])) (hg : wc.grownBy w3 v2.ownBlock) (hv : v2'.ownBlock = v2.ownBlock ∨ v2'.ownBlock = some wc.heap.size)
  (hn : NewRow V.heap.size wc a c g sh (fun _ => .bool false)) : ∃ B', Beg w0 (w3.setCell ⟨B, 2, none⟩ v2') B u0 v1 v2' v3 k1 (k2 + 1) k3 sh l L1 (L2 ++ [(a, sh, c)]) L3 B1 B' B3 := by
 have hc := hV.below hb
 have hn : some B ≠ v2.ownBlock ∧ NewRow V.heap.size wc a c g sh (fun _ => .bool false) := ⟨fun e => by have := (hc.r2.o.lt B e.symm).1; omega, hn⟩
 obtain ⟨hn, hnr⟩ := hn
 obtain ⟨B', P1, P2⟩ := hV.r2.pushed hb ho hg hv hnr (by have := hV.hs; omega) B 2 (Nat.lt_succ_self _) v2'
 have hbl : Below w0.heap.size w0 w3 := hc.bl.grown hg hc.bl.size (fun j e => by have := (hc.r2.o.lt j e).1; have := hc.hw; omega)
 exact ⟨B', set_off (by decide) (hg.cell hc.c0 hn), set_off (by decide) (hg.cell hc.c1 hn), set_here (hg.cell hc.c2 hn), set_off (by decide) (hg.cell hc.c3 hn), fun j => by
  simp only [World.frozen?_setCell]
  exact (World.frozen?_of_block (a := ⟨B, j, none⟩) (hg.block B hc.hs hn)).trans (hc.fz j), CR.stays hV.r2 hV.r1 hb hg (fun b p q => hV.a12 b q p) B 2 (Nat.lt_succ_self _) _, P1, CR.stays hV.r2 hV.r3 hb hg hV.a23 B 2 (Nat.lt_succ_self _) _, (fun b p q => (P2 b q).elim (fun q => hV.a12 b p q) (fun q => by have := (hV.r1.lt p).2; omega)), hV.a13, (fun b p q => (P2 b p).elim (fun p => hV.a23 b p q) (fun p => by have := (hV.r3.lt q).2; omega)), grow_set hbl hc.hw _, hc.hw, by simp only [World.size_setCell]; exact Nat.lt_of_lt_of_le hc.hs hg.size⟩
theorem Beg.push3 {w0 V : World} {B : Nat} {u0 v1 v2 v3 : Value} {k1 k2 k3 sh : Nat} {l : List TxA} {L1 L2 L3 : List (Option Addr × Nat × Nat)} {B1 B2 B3 : Nat → Nat} {wc w3 : World} {v3' : Value} {a : Option Addr} {c g : Nat} (hV : Beg w0 V B u0 v1 v2 v3 k1 k2 k3 sh l L1 L2 L3 B1 B2 B3) (hb : Below V.heap.size V wc)
  (ho : w3.ownsRow (B + 1) 25 1 v3' (L3.length + 1) ((L3.map fun p => Value.slice p.1 p.2.1 p.2.2) ++ [.slice a (gX l k3).rs.length c])) (hg : wc.grownBy w3 v3.ownBlock) (hv : v3'.ownBlock = v3.ownBlock ∨ v3'.ownBlock = some wc.heap.size)
  (hn : NewRow V.heap.size wc a c g (gX l k3).rs.length (fun _ => .int .i64 0)) : ∃ B', Beg w0 (w3.setCell ⟨B, 3, none⟩ v3') B u0 v1 v2 v3' k1 k2 (k3 + 1) sh l L1 L2 (L3 ++ [(a, (gX l k3).rs.length, c)]) B1 B2 B' := by
 have hc := hV.below hb
 have hn : some B ≠ v3.ownBlock ∧ NewRow V.heap.size wc a c g (gX l k3).rs.length (fun _ => .int .i64 0) := ⟨fun e => by have := (hc.r3.o.lt B e.symm).1; omega, hn⟩
 obtain ⟨hn, hnr⟩ := hn
 obtain ⟨B', P1, P2⟩ := hV.r3.pushed hb ho hg hv hnr (by have := hV.hs; omega) B 3 (Nat.lt_succ_self _) v3'
 have hbl : Below w0.heap.size w0 w3 := hc.bl.grown hg hc.bl.size (fun j e => by have := (hc.r3.o.lt j e).1; have := hc.hw; omega)
 exact ⟨B', set_off (by decide) (hg.cell hc.c0 hn), set_off (by decide) (hg.cell hc.c1 hn), set_off (by decide) (hg.cell hc.c2 hn), set_here (hg.cell hc.c3 hn), fun j => by
  simp only [World.frozen?_setCell]
  exact (World.frozen?_of_block (a := ⟨B, j, none⟩) (hg.block B hc.hs hn)).trans (hc.fz j), CR.stays hV.r3 hV.r1 hb hg (fun b p q => hV.a13 b q p) B 3 (Nat.lt_succ_self _) _, CR.stays hV.r3 hV.r2 hb hg (fun b p q => hV.a23 b q p) B 3 (Nat.lt_succ_self _) _, P1, hV.a12, (fun b p q => (P2 b q).elim (fun q => hV.a13 b p q) (fun q => by have := (hV.r1.lt p).2; omega)), (fun b p q => (P2 b q).elim (fun q => hV.a23 b p q) (fun q => by have := (hV.r2.lt p).2; omega)), grow_set hbl hc.hw _, hc.hw, by simp only [World.size_setCell]; exact Nat.lt_of_lt_of_le hc.hs hg.size⟩
theorem made_new {V : World} {z : Value} {n : Nat} {T T' : TypeId} {u : Value} (hz : z.cells = #[z]) : NewRow V.heap.size (((V.drew).alloc (.cells (madeCells z.cells n) T)).alloc (.cells #[u] T')) (some ⟨V.heap.size, 0, none⟩) n V.heap.size n (fun _ => z) := by
 refine ⟨fun _ => ⟨rfl, Nat.le_refl _, by simp; omega, fun k hk => ?_, fun k => ?_⟩, (fun e => by cases e), (fun ad e => by injection e with e; subst e; exact Nat.le_refl _)⟩
 ·refine ext_cell (grow_alloc (Below.refl _ _) _) (at_new V.drew (madeCells z.cells n) T V.heap.size k z rfl ?_)
  rw [hz, ← Array.getElem?_toList, toList_madeCells_one, List.getElem?_replicate, if_pos hk]
 ·exact ((grow_alloc (Below.refl _ _) _ : Below _ ((V.drew).alloc (.cells (madeCells z.cells n) T)) _).frozen (p := ⟨V.heap.size, k, none⟩) (by simp)).trans (frozen_new V.drew _ T V.heap.size k rfl)
end Go.Proofs.YtcgpkonfneofdaaGreat
